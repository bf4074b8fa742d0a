/-
  What a key and a nonce tell: the program's sealerOf.
-/
import Derived.Test.YtflnhjbanlpjiaiSlrM
import Derived.Test.YtflnhjbanlpjiaiCipWalks
import Derived.Test.YtflnhjbanlpjiaiEncWalks
import Derived.Test.YtflnhjbanlpjiaiEltWalks
import Derived.Test.YtflnhjbanlpjiaiStmWalks
import Derived.Test.YtflnhjbanlpjiaiWhoF
import Derived.Laws.CopyRow
import Derived.StillTailTactics
namespace Go.Proofs.Ytflnhjbanlpjiai.W
open Go.ChangeShapes Go.WideShapes Go.ChangeAt Go.RowKit
open Go.Proofs.Ytflnhjbanlpjiai.M

theorem ar_all' {w : World} {g : Nat} {T : TypeId} {l : List Nat} (h : Ar w g T l) : w.rangeAt g 0 (l.map bv) := fun j v hv => by
  rw [cell_of_row w g (0 + j) _ _ _ h, Nat.zero_add]
  simp [arr, hv]
theorem non_copy (n : List Nat) : ((arr (zs 15 ++ [1])).toList.take 0 ++ n.map bv ++ (arr (zs 15 ++ [1])).toList.drop (0 + 12)).toArray = arr (jb n) := by
  unfold arr jb
  simp [zs, bv]
theorem zero_built : Try.prog.built 39 [] = some (arr (zs 16)) := by kernel_rfl
theorem zsc_old (j : List Nat) (gc : Nat) (h : Nat × Nat) (hj : j.length = 16) : (#[.pointer none, .int .u64 0, .int .u64 0, .int .u8 0, .int .u8 0, .int .u8 0, .int .u8 0, .int .u8 0, .int .u8 0, .int .u8 0, .int .u8 0, .int .u8 0, .int .u8 0, .int .u8 0, .int .u8 0, .int .u8 0, .int .u8 0, .int .u8 0, .int .u8 0] : Array Value).size = (sc gc h j).size := by rw [sc_size gc h j hj]; rfl

set_option maxHeartbeats 2000000 in
set_option maxRecDepth 100000 in
theorem sealerof (k n : List Nat) (w : World) (hk : k.length = 16) (hn : n.length = 12) (yk : Byt k) :
    Calls Try.prog 38 #[.agg (arr k), .agg (arr n)] w fun e w' => ∃ g, e = .returned (.agg (sc g (elt (enc (kf k) (zs 16))) (jb n))) ∧ Ar w' g 73 (cph (kf k) 176) ∧ w.heap.size ≤ g ∧ Below w.heap.size w w' := by
  have NK := hid hk
  have NN := hid hn
  clear hk hn
  have ZK := hid (key_size k NK.out)
  have A0 := Ar.new w 38 k
  have A1 := Ar.new (w.alloc (.cells (arr k) 38)) 57 n
  have V2 := heap_alloc_new ((w.alloc (.cells (arr k) 38)).alloc (.cells (arr n) 57)) (.cells #[.pointer none, .int .u64 0, .int .u64 0, .int .u8 0, .int .u8 0, .int .u8 0, .int .u8 0, .int .u8 0, .int .u8 0, .int .u8 0, .int .u8 0, .int .u8 0, .int .u8 0, .int .u8 0, .int .u8 0, .int .u8 0, .int .u8 0, .int .u8 0, .int .u8 0] 55)
  simp only [World.size_alloc] at A1 V2
  have HA := hid ((A0.alloc (.cells (arr n) 57)).alloc (.cells #[.pointer none, .int .u64 0, .int .u64 0, .int .u8 0, .int .u8 0, .int .u8 0, .int .u8 0, .int .u8 0, .int .u8 0, .int .u8 0, .int .u8 0, .int .u8 0, .int .u8 0, .int .u8 0, .int .u8 0, .int .u8 0, .int .u8 0, .int .u8 0, .int .u8 0] 55))
  have HN := hid (A1.alloc (.cells #[.pointer none, .int .u64 0, .int .u64 0, .int .u8 0, .int .u8 0, .int .u8 0, .int .u8 0, .int .u8 0, .int .u8 0, .int .u8 0, .int .u8 0, .int .u8 0, .int .u8 0, .int .u8 0, .int .u8 0, .int .u8 0, .int .u8 0, .int .u8 0, .int .u8 0] 55))
  have HV := hid V2
  have HB := hid (below_alloc3 w (.cells (arr k) 38) (.cells (arr n) 57) (.cells #[.pointer none, .int .u64 0, .int .u64 0, .int .u8 0, .int .u8 0, .int .u8 0, .int .u8 0, .int .u8 0, .int .u8 0, .int .u8 0, .int .u8 0, .int .u8 0, .int .u8 0, .int .u8 0, .int .u8 0, .int .u8 0, .int .u8 0, .int .u8 0, .int .u8 0] 55))
  have SZ := hid (show (((w.alloc (.cells (arr k) 38)).alloc (.cells (arr n) 57)).alloc (.cells #[.pointer none, .int .u64 0, .int .u64 0, .int .u8 0, .int .u8 0, .int .u8 0, .int .u8 0, .int .u8 0, .int .u8 0, .int .u8 0, .int .u8 0, .int .u8 0, .int .u8 0, .int .u8 0, .int .u8 0, .int .u8 0, .int .u8 0, .int .u8 0, .int .u8 0] 55)).heap.size = w.heap.size + 1 + 1 + 1 by simp)
  clear A0 A1 V2
  go_enter Try.func38, Try.ntmps38
  go_wp2_with (refine wpList_load_row rfl 38 _ rfl w.heap.size rfl 38 (arr k) _ _ HA.out Try.underlying38 rfl ZK.out ?_)
  refine (cipof k _ NK.out yk).mono ?_
  rintro e w1 ⟨g, rfl, C, hg, hM⟩
  rw [SZ.out] at hg
  have HG := hid hg
  have N1 := hid (HN.out.below hM)
  have V1 := hid (var_below hM HV.out)
  have B1 := hid (HB.out.trans (hM.mono HB.out.size))
  have CL := hid C.lt
  have Z1 := hid (show w.heap.size + 1 + 1 < w1.heap.size from var_lt V1.out)
  have C1 := hid C
  clear hM HA HN HV HB SZ C hg
  have J0 := hid (show Ar _ _ _ (zs 16) from heap_alloc_new w1 (.cells #[.int .u8 0, .int .u8 0, .int .u8 0, .int .u8 0, .int .u8 0, .int .u8 0, .int .u8 0, .int .u8 0, .int .u8 0, .int .u8 0, .int .u8 0, .int .u8 0, .int .u8 0, .int .u8 0, .int .u8 0, .int .u8 0] 39))
  have ZJ := hid (blk_size (zs 15 ++ [1]) (by rw [List.length_append, zs_len]; rfl))
  have J1 := hid (J0.out.row (l' := zs 15 ++ [1]))
  have N2 := hid ((N1.out.alloc (.cells #[.int .u8 0, .int .u8 0, .int .u8 0, .int .u8 0, .int .u8 0, .int .u8 0, .int .u8 0, .int .u8 0, .int .u8 0, .int .u8 0, .int .u8 0, .int .u8 0, .int .u8 0, .int .u8 0, .int .u8 0, .int .u8 0] 39)).rowFar (g' := w1.heap.size) (arr (zs 15 ++ [1])) (by have := Z1.out; omega))
  have V2 := hid (show ((w1.alloc (.cells #[.int .u8 0, .int .u8 0, .int .u8 0, .int .u8 0, .int .u8 0, .int .u8 0, .int .u8 0, .int .u8 0, .int .u8 0, .int .u8 0, .int .u8 0, .int .u8 0, .int .u8 0, .int .u8 0, .int .u8 0, .int .u8 0] 39)).setRow w1.heap.size (arr (zs 15 ++ [1]))).heap[w.heap.size + 1 + 1]? = some (.cells #[.pointer none, .int .u64 0, .int .u64 0, .int .u8 0, .int .u8 0, .int .u8 0, .int .u8 0, .int .u8 0, .int .u8 0, .int .u8 0, .int .u8 0, .int .u8 0, .int .u8 0, .int .u8 0, .int .u8 0, .int .u8 0, .int .u8 0, .int .u8 0, .int .u8 0] 55) by
    rw [setRow_other _ _ _ _ (show w.heap.size + 1 + 1 ≠ w1.heap.size by have := Z1.out; omega)]
    exact var_alloc _ V1.out)
  have C2 := hid ((C1.out.alloc (.cells #[.int .u8 0, .int .u8 0, .int .u8 0, .int .u8 0, .int .u8 0, .int .u8 0, .int .u8 0, .int .u8 0, .int .u8 0, .int .u8 0, .int .u8 0, .int .u8 0, .int .u8 0, .int .u8 0, .int .u8 0, .int .u8 0] 39)).rowFar (g' := w1.heap.size) (arr (zs 15 ++ [1])) (by have := CL.out; omega))
  have B2 := hid (below_row (B1.out.alloc B1.out.size (.cells #[.int .u8 0, .int .u8 0, .int .u8 0, .int .u8 0, .int .u8 0, .int .u8 0, .int .u8 0, .int .u8 0, .int .u8 0, .int .u8 0, .int .u8 0, .int .u8 0, .int .u8 0, .int .u8 0, .int .u8 0, .int .u8 0] 39)) (g := w1.heap.size) B1.out.size (arr (zs 15 ++ [1])))
  go_wp2_with (first | refine build_eq rfl 39 _ rfl (arr (zs 15 ++ [1])) j_built ?_ | (refine wpList_store_row rfl 39 _ _ rfl w1.heap.size (arr (zs 15 ++ [1])) rfl rfl 39 _ J0.out ZJ.out (by rw [arr_size, arr_size, zs_len, List.length_append, zs_len]; rfl) (arr_one _) ?_; generalize ((w1.alloc (.cells #[.int .u8 0, .int .u8 0, .int .u8 0, .int .u8 0, .int .u8 0, .int .u8 0, .int .u8 0, .int .u8 0, .int .u8 0, .int .u8 0, .int .u8 0, .int .u8 0, .int .u8 0, .int .u8 0, .int .u8 0, .int .u8 0] 39)).setRow w1.heap.size (arr (zs 15 ++ [1]))) = W at *))
  clear N1 V1 B1 C1 J0
  have Z2 := hid (Nat.le_trans (Nat.le_succ _) (Nat.le_trans (Nat.le_succ _) (Nat.le_of_lt Z1.out)))
  generalize w1.heap.size = g6 at *
  obtain ⟨y2, hcp, J3, N3, V3, C3, B3⟩ : ∃ y2, (Builtin.copy_ #[22, 22] 3 #[.slice (some ⟨g6, 0, none⟩) 16 16, .slice (some ⟨w.heap.size + 1, 0, none⟩) 12 12]).run Try.prog W.drew = .ok (.int .i64 12) y2 ∧ Hid (Ar y2 g6 39 (jb n)) ∧ Hid (Ar y2 (w.heap.size + 1) 57 n) ∧ Hid (y2.heap[w.heap.size + 1 + 1]? = some (.cells #[.pointer none, .int .u64 0, .int .u64 0, .int .u8 0, .int .u8 0, .int .u8 0, .int .u8 0, .int .u8 0, .int .u8 0, .int .u8 0, .int .u8 0, .int .u8 0, .int .u8 0, .int .u8 0, .int .u8 0, .int .u8 0, .int .u8 0, .int .u8 0, .int .u8 0] 55)) ∧ Hid (Ar y2 g 73 (cph (kf k) 176)) ∧ Hid (Below w.heap.size w y2) := by
    have hl : (n.map bv).length = 12 := by rw [List.length_map, NN.out]
    have hr := run_copy_row (P := Try.prog) W.drew 22 22 3 5 g6 0 16 16 ⟨w.heap.size + 1, 0, none⟩ 12 12 _ 39 (n.map bv) Try.underlying22 (by kernel_rfl) J1.out.drew (by rw [hl]; rfl)
      (fun j u hj => by
        have q := (ar_all' N2.out.drew) j u hj
        rw [Addr.add_lit]
        exact q)
      (by rw [hl, arr_size, List.length_append, zs_len]; simp) (by intro u hu; obtain ⟨x, _, rfl⟩ := List.mem_map.1 hu; rfl)
    rw [hl, non_copy] at hr
    refine ⟨_, hr, hid (J1.out.drew.row), hid (N2.out.drew.rowFar (g' := g6) _ (by have := Z1.out; omega)), hid ?_, hid (C2.out.drew.rowFar (g' := g6) _ (by have := CL.out; omega)), hid (below_row B2.out.drew Z2.out _)⟩
    rw [setRow_other _ _ _ _ (show w.heap.size + 1 + 1 ≠ g6 by have := Z1.out; omega)]
    exact V2.out
  have CB := cut_blk g6
  have CN := cut_non (w.heap.size + 1)
  clear J1 N2 V2 C2 B2
  refine wp_region_still_tail 2 (by kernel_rfl) (by kernel_rfl) ?_
  change wpStill _ _ (World.drew _) (fun a' => wpList _ _ _ _ a' (World.drew _)) _ _
  simp only [List.take_succ_cons, List.take_zero, List.drop_succ_cons, List.drop_zero]
  repeat still_step
  refine wpStill_nil ?_
  go_wp2_with fail
  have ZB := hid (blk_size (jb n) (jb_len n NN.out))
  have V4 : y2.drew.heap[w.heap.size + 1 + 1]? = some (.cells #[.pointer none, .int .u64 0, .int .u64 0, .int .u8 0, .int .u8 0, .int .u8 0, .int .u8 0, .int .u8 0, .int .u8 0, .int .u8 0, .int .u8 0, .int .u8 0, .int .u8 0, .int .u8 0, .int .u8 0, .int .u8 0, .int .u8 0, .int .u8 0, .int .u8 0] 55) := V3.out
  have C4 : Ar y2.drew g 73 (cph (kf k) 176) := C3.out
  refine wp_region_held_drew (S := fun w' => Below w.heap.size w w' ∧ Ar w' g6 39 (jb n)) (by kernel_rfl) ⟨B3.out.drew, J3.out.drew⟩ (fun hH => ?_)
  refine wpAnyH_take (i := 0) (v := .pointer (some ⟨g, 0, none⟩)) (by simp only [List.getElem?_toArray, List.getElem?_cons_zero]; rfl) (by kernel_rfl) (by kernel_rfl) (by kernel_rfl) (by intro _ _ _ h; exact h) (Or.inl ⟨by rfl, fun w hS => by go_simp⟩) hH ?_
  simp only [Act.put, List.setIfInBounds_toArray, List.set_cons_zero, List.set_cons_succ]
  refine wpAnyH_take (i := 1) (v := .pointer (some ⟨g, 0, none⟩)) (by simp only [List.getElem?_toArray, List.getElem?_cons_succ, List.getElem?_cons_zero]; rfl) (by kernel_rfl) (by kernel_rfl) (by kernel_rfl) (by intro _ _ _ h; exact h) (Or.inl ⟨by rfl, fun w hS => by go_simp⟩) hH ?_
  simp only [Act.put, List.setIfInBounds_toArray, List.set_cons_zero, List.set_cons_succ]
  refine wpAnyH_take (i := 2) (v := .agg (arr (zs 16))) (by simp only [List.getElem?_toArray, List.getElem?_cons_succ, List.getElem?_cons_zero]; rfl) (by kernel_rfl) (by kernel_rfl) (by kernel_rfl) (by intro _ _ _ h; exact h) (Or.inl ⟨by rfl, fun w hS => by go_simp; rfl⟩) hH ?_
  simp only [Act.put, List.setIfInBounds_toArray, List.set_cons_zero, List.set_cons_succ]
  refine wpAnyH_take (i := 5) (v := .agg (arr (jb n))) (by simp only [List.getElem?_toArray, List.getElem?_cons_succ, List.getElem?_cons_zero]; rfl) (by kernel_rfl) (by kernel_rfl) (by kernel_rfl) (by intro _ _ _ h; exact h) (yieldsIf_load_mid (by rfl) _ _ rfl g6 0 rfl ((jb n).map bv) _ (fun w hS => ar_all' hS.2) Try.underlying39 rfl (by rw [List.length_map, ← arr_size]; exact ZB.out)) hH ?_
  simp only [Act.put, List.setIfInBounds_toArray, List.set_cons_zero, List.set_cons_succ]
  generalize y2.drew = x at hH V4 C4 ⊢
  refine wpAnyH_ready (rs := [3]) (by kernel_rfl) (by simp) ?_
  refine AllReadyH.cons (by simp only [List.getElem?_toArray, List.getElem?_cons_succ, List.getElem?_cons_zero]; rfl) (fun K hK => ?_) AllReadyH.nil
  go_simp
  refine (encr (zs 16) (kf k) g _ (zs_len 16) (zs_byt 16) (kf_lt k yk) C4).mono ?_
  rintro e x3 ⟨rfl, hM⟩
  refine hK.out _ _ ⟨hH.1.trans (hM.mono hH.1.size), hH.2.below hM⟩ (fun hH => ?_)
  clear hK K
  replace V4 := var_below hM V4
  replace C4 := C4.below hM
  clear hM
  refine wpAnyH_ready (rs := [4]) (by kernel_rfl) (by simp) ?_
  refine AllReadyH.cons (by simp only [List.getElem?_toArray, List.getElem?_cons_succ, List.getElem?_cons_zero]; rfl) (fun K hK => ?_) AllReadyH.nil
  go_simp
  refine (elemof (enc (kf k) (zs 16)) _ (stt_len _ _ (zs_len 16) 10) (stt_byt _ (kf_lt k yk) _ (zs_byt 16) 10)).mono ?_
  rintro e x4 ⟨rfl, hM⟩
  refine hK.out _ _ ⟨hH.1.trans (hM.mono hH.1.size), hH.2.below hM⟩ (fun hH => ?_)
  clear hK K
  replace V4 := var_below hM V4
  replace C4 := C4.below hM
  clear hM
  refine wpAnyH_ready (rs := [6]) (by kernel_rfl) (by simp) ?_
  refine AllReadyH.cons (by simp only [List.getElem?_toArray, List.getElem?_cons_succ, List.getElem?_cons_zero]; rfl) (fun K hK => ?_) AllReadyH.nil
  refine step_build (by rfl) _ _ (by rfl) (sc g (elt (enc (kf k) (zs 16))) (jb n)) (sc_eq g (elt (enc (kf k) (zs 16))) (jb n) (jb_len n NN.out) (by simp [Act.eval])) ?_
  refine hK.out _ _ hH (fun hH => ?_)
  clear hK K
  simp only [Act.put, List.setIfInBounds_toArray, List.set_cons_zero, List.set_cons_succ]
  have VN := hid (setRow_heap _ (w.heap.size + 1 + 1) _ (sc g (elt (enc (kf k) (zs 16))) (jb n)) _ _ V4)
  have CN2 := hid (C4.rowFar (g' := w.heap.size + 1 + 1) (sc g (elt (enc (kf k) (zs 16))) (jb n)) (by have := HG.out; omega))
  have BN := hid (below_row hH.1 (g := w.heap.size + 1 + 1) (by omega) (sc g (elt (enc (kf k) (zs 16))) (jb n)))
  have AN := hid (hH.2.rowFar (g' := w.heap.size + 1 + 1) (sc g (elt (enc (kf k) (zs 16))) (jb n)) (by have := Z1.out; omega))
  refine wpAnyH_ready (rs := [7]) (by kernel_rfl) (by simp) ?_
  refine AllReadyH.cons (by simp only [List.getElem?_toArray, List.getElem?_cons_succ, List.getElem?_cons_zero]; rfl) (fun K hK => ?_) AllReadyH.nil
  refine step_store_row (by rfl) _ _ _ (by rfl) (w.heap.size + 1 + 1) (sc g (elt (enc (kf k) (zs 16))) (jb n)) (by rfl) (by rfl) 55 _ V4 (sc_info _ _ _ (jb_len n NN.out)) (zsc_old _ _ _ (jb_len n NN.out)) (sc_one _ _ _) ?_
  refine hK.out _ _ ⟨BN.out, AN.out⟩ (fun _ => ?_)
  clear hK K
  simp only [Act.put]
  refine wpAnyH_done (by kernel_rfl) ?_ _
  go_wp2_with fail
  exact bodyPost_ret (v := .agg (sc g (elt (enc (kf k) (zs 16))) (jb n))) (results_cell_row rfl _ _ (w.heap.size + 1 + 1) 55 _ _ _ rfl VN.out Try.underlying55 rfl (sc_info _ _ _ (jb_len n NN.out))) rfl ⟨g, rfl, CN2.out, by have := HG.out; omega, BN.out⟩
end Go.Proofs.Ytflnhjbanlpjiai.W
