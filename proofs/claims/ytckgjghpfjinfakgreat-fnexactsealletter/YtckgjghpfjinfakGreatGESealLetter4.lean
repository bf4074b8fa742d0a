/-
  What a key and a nonce tell: the program's sealerOf.
  Whole blocks, and a length in bits: the program's appendWhole, lengthInBits.
  The answer of a function of a block.
  What is a block: the program's isBlock, and the bytes of a slice as an array.
  Sums of group elements, and what is times the power 1: the program's powerZero, plus, raised.
  Products of group elements: the program's times, groupProduct.
  A group element as a block, and a slice as a block: the program's blockOfElement, blockOf, groupProduct.
  The hash of blocks: the program's hashOf.
  What a sealer hides, and its tag: the program's hide, tagOf.
  What is a key: the program's isKey.
  Whether lengths fit: the program's sealFits.
  What is sealed: what the program's SealText answers.
-/
import Derived.Test.YtckgjghpfjinfakGreatGESealLetter2
import Derived.Test.YtckgjghpfjinfakGreatGESealLetter3
import Derived.Test.YtckgjghpfjinfakGreatWhoF
import Derived.Laws.CopyRow
import Derived.StillTailTactics
import Derived.Test.YtckgjghpfjinfakGreatAppM
import Derived.Test.YtckgjghpfjinfakGreatGESealLetter1
import Derived.Test.YtckgjghpfjinfakGreatSlX
import Derived.Test.YtckgjghpfjinfakGreatHshF
import Derived.Test.YtckgjghpfjinfakGreatCut
import Derived.Test.YtckgjghpfjinfakGreatBase
import Derived.Test.YtckgjghpfjinfakGreatWithin
import Derived.Test.YtckgjghpfjinfakGreatAskF

namespace Go.Proofs.YtckgjghpfjinfakGreat.W
open Go.ChangeShapes Go.WideShapes Go.ChangeAt Go.RowKit
open Go.Proofs.YtckgjghpfjinfakGreat.M

theorem ar_all' {w : World} {g : Nat} {T : TypeId} {l : List Nat} (h : Ar w g T l) : w.rangeAt g 0 (l.map bv) := fun j v hv => by
  rw [cell_of_row w g (0 + j) _ _ _ h, Nat.zero_add]
  simp [arr, hv]
theorem non_copy (n : List Nat) : ((arr (zs 15 ++ [1])).toList.take 0 ++ n.map bv ++ (arr (zs 15 ++ [1])).toList.drop (0 + 12)).toArray = arr (jb n) := by
  unfold arr jb
  simp [zs, bv]
theorem zero_built : Tryz.prog.built 107 [] = some (arr (zs 16)) := by kernel_rfl
theorem zsc_old (j : List Nat) (gc : Nat) (h : Nat × Nat) (hj : j.length = 16) : (#[.pointer none, .int .u64 0, .int .u64 0, .int .u8 0, .int .u8 0, .int .u8 0, .int .u8 0, .int .u8 0, .int .u8 0, .int .u8 0, .int .u8 0, .int .u8 0, .int .u8 0, .int .u8 0, .int .u8 0, .int .u8 0, .int .u8 0, .int .u8 0, .int .u8 0] : Array Value).size = (sc gc h j).size := by rw [sc_size gc h j hj]; rfl

set_option maxHeartbeats 2000000 in
set_option maxRecDepth 100000 in
theorem sealerof (k n : List Nat) (w : World) (hk : k.length = 16) (hn : n.length = 12) (yk : Byt k) :
    Calls Tryz.prog 63 #[.agg (arr k), .agg (arr n)] w fun e w' => ∃ g, e = .returned (.agg (sc g (elt (enc (kf k) (zs 16))) (jb n))) ∧ Ar w' g 130 (cph (kf k) 176) ∧ w.heap.size ≤ g ∧ Below w.heap.size w w' := by
  have NK := hid hk
  have NN := hid hn
  clear hk hn
  have ZK := hid (key_size k NK.out)
  have A0 := Ar.new w 61 k
  have A1 := Ar.new (w.alloc (.cells (arr k) 61)) 111 n
  have V2 := heap_alloc_new ((w.alloc (.cells (arr k) 61)).alloc (.cells (arr n) 111)) (.cells #[.pointer none, .int .u64 0, .int .u64 0, .int .u8 0, .int .u8 0, .int .u8 0, .int .u8 0, .int .u8 0, .int .u8 0, .int .u8 0, .int .u8 0, .int .u8 0, .int .u8 0, .int .u8 0, .int .u8 0, .int .u8 0, .int .u8 0, .int .u8 0, .int .u8 0] 109)
  simp only [World.size_alloc] at A1 V2
  have HA := hid ((A0.alloc (.cells (arr n) 111)).alloc (.cells #[.pointer none, .int .u64 0, .int .u64 0, .int .u8 0, .int .u8 0, .int .u8 0, .int .u8 0, .int .u8 0, .int .u8 0, .int .u8 0, .int .u8 0, .int .u8 0, .int .u8 0, .int .u8 0, .int .u8 0, .int .u8 0, .int .u8 0, .int .u8 0, .int .u8 0] 109))
  have HN := hid (A1.alloc (.cells #[.pointer none, .int .u64 0, .int .u64 0, .int .u8 0, .int .u8 0, .int .u8 0, .int .u8 0, .int .u8 0, .int .u8 0, .int .u8 0, .int .u8 0, .int .u8 0, .int .u8 0, .int .u8 0, .int .u8 0, .int .u8 0, .int .u8 0, .int .u8 0, .int .u8 0] 109))
  have HV := hid V2
  have HB := hid (below_alloc3 w (.cells (arr k) 61) (.cells (arr n) 111) (.cells #[.pointer none, .int .u64 0, .int .u64 0, .int .u8 0, .int .u8 0, .int .u8 0, .int .u8 0, .int .u8 0, .int .u8 0, .int .u8 0, .int .u8 0, .int .u8 0, .int .u8 0, .int .u8 0, .int .u8 0, .int .u8 0, .int .u8 0, .int .u8 0, .int .u8 0] 109))
  have SZ := hid (show (((w.alloc (.cells (arr k) 61)).alloc (.cells (arr n) 111)).alloc (.cells #[.pointer none, .int .u64 0, .int .u64 0, .int .u8 0, .int .u8 0, .int .u8 0, .int .u8 0, .int .u8 0, .int .u8 0, .int .u8 0, .int .u8 0, .int .u8 0, .int .u8 0, .int .u8 0, .int .u8 0, .int .u8 0, .int .u8 0, .int .u8 0, .int .u8 0] 109)).heap.size = w.heap.size + 1 + 1 + 1 by simp)
  clear A0 A1 V2
  go_enter Tryz.func63, Tryz.ntmps63
  go_wp2_with (refine wpList_load_row rfl 61 _ rfl w.heap.size rfl 61 (arr k) _ _ HA.out Tryz.underlying61 rfl ZK.out ?_)
  refine (cipof k _ NK.out yk).mono ?_
  rintro e w1 ⟨g, rfl, C, hg, hM⟩
  rw [SZ.out] at hg
  have HG := hid hg
  have N1 := hid (HN.out.below hM)
  have V1 := hid (var_below hM HV.out)
  have B1 := hid (HB.out.trans (hM.mono HB.out.size))
  have CL := hid C.lt
  have Z1 := hid (show w.heap.size + 1 + 1 < w1.heap.size from var_lt V1.out)
  have C1 := hid C
  clear hM HA HN HV HB SZ C hg
  have J0 := hid (show Ar _ _ _ (zs 16) from heap_alloc_new w1 (.cells #[.int .u8 0, .int .u8 0, .int .u8 0, .int .u8 0, .int .u8 0, .int .u8 0, .int .u8 0, .int .u8 0, .int .u8 0, .int .u8 0, .int .u8 0, .int .u8 0, .int .u8 0, .int .u8 0, .int .u8 0, .int .u8 0] 107))
  have ZJ := hid (blk_size (zs 15 ++ [1]) (by rw [List.length_append, zs_len]; rfl))
  have J1 := hid (J0.out.row (l' := zs 15 ++ [1]))
  have N2 := hid ((N1.out.alloc (.cells #[.int .u8 0, .int .u8 0, .int .u8 0, .int .u8 0, .int .u8 0, .int .u8 0, .int .u8 0, .int .u8 0, .int .u8 0, .int .u8 0, .int .u8 0, .int .u8 0, .int .u8 0, .int .u8 0, .int .u8 0, .int .u8 0] 107)).rowFar (g' := w1.heap.size) (arr (zs 15 ++ [1])) (by have := Z1.out; omega))
  have V2 := hid (show ((w1.alloc (.cells #[.int .u8 0, .int .u8 0, .int .u8 0, .int .u8 0, .int .u8 0, .int .u8 0, .int .u8 0, .int .u8 0, .int .u8 0, .int .u8 0, .int .u8 0, .int .u8 0, .int .u8 0, .int .u8 0, .int .u8 0, .int .u8 0] 107)).setRow w1.heap.size (arr (zs 15 ++ [1]))).heap[w.heap.size + 1 + 1]? = some (.cells #[.pointer none, .int .u64 0, .int .u64 0, .int .u8 0, .int .u8 0, .int .u8 0, .int .u8 0, .int .u8 0, .int .u8 0, .int .u8 0, .int .u8 0, .int .u8 0, .int .u8 0, .int .u8 0, .int .u8 0, .int .u8 0, .int .u8 0, .int .u8 0, .int .u8 0] 109) by
    rw [setRow_other _ _ _ _ (show w.heap.size + 1 + 1 ≠ w1.heap.size by have := Z1.out; omega)]
    exact var_alloc _ V1.out)
  have C2 := hid ((C1.out.alloc (.cells #[.int .u8 0, .int .u8 0, .int .u8 0, .int .u8 0, .int .u8 0, .int .u8 0, .int .u8 0, .int .u8 0, .int .u8 0, .int .u8 0, .int .u8 0, .int .u8 0, .int .u8 0, .int .u8 0, .int .u8 0, .int .u8 0] 107)).rowFar (g' := w1.heap.size) (arr (zs 15 ++ [1])) (by have := CL.out; omega))
  have B2 := hid (below_row (B1.out.alloc B1.out.size (.cells #[.int .u8 0, .int .u8 0, .int .u8 0, .int .u8 0, .int .u8 0, .int .u8 0, .int .u8 0, .int .u8 0, .int .u8 0, .int .u8 0, .int .u8 0, .int .u8 0, .int .u8 0, .int .u8 0, .int .u8 0, .int .u8 0] 107)) (g := w1.heap.size) B1.out.size (arr (zs 15 ++ [1])))
  go_wp2_with (first | refine build_eq rfl 107 _ rfl (arr (zs 15 ++ [1])) j_built ?_ | (refine wpList_store_row rfl 107 _ _ rfl w1.heap.size (arr (zs 15 ++ [1])) rfl rfl 107 _ J0.out ZJ.out (by rw [arr_size, arr_size, zs_len, List.length_append, zs_len]; rfl) (arr_one _) ?_; generalize ((w1.alloc (.cells #[.int .u8 0, .int .u8 0, .int .u8 0, .int .u8 0, .int .u8 0, .int .u8 0, .int .u8 0, .int .u8 0, .int .u8 0, .int .u8 0, .int .u8 0, .int .u8 0, .int .u8 0, .int .u8 0, .int .u8 0, .int .u8 0] 107)).setRow w1.heap.size (arr (zs 15 ++ [1]))) = W at *))
  clear N1 V1 B1 C1 J0
  have Z2 := hid (Nat.le_trans (Nat.le_succ _) (Nat.le_trans (Nat.le_succ _) (Nat.le_of_lt Z1.out)))
  generalize w1.heap.size = g6 at *
  obtain ⟨y2, hcp, J3, N3, V3, C3, B3⟩ : ∃ y2, (Builtin.copy_ #[25, 25] 3 #[.slice (some ⟨g6, 0, none⟩) 16 16, .slice (some ⟨w.heap.size + 1, 0, none⟩) 12 12]).run Tryz.prog W.drew = .ok (.int .i64 12) y2 ∧ Hid (Ar y2 g6 107 (jb n)) ∧ Hid (Ar y2 (w.heap.size + 1) 111 n) ∧ Hid (y2.heap[w.heap.size + 1 + 1]? = some (.cells #[.pointer none, .int .u64 0, .int .u64 0, .int .u8 0, .int .u8 0, .int .u8 0, .int .u8 0, .int .u8 0, .int .u8 0, .int .u8 0, .int .u8 0, .int .u8 0, .int .u8 0, .int .u8 0, .int .u8 0, .int .u8 0, .int .u8 0, .int .u8 0, .int .u8 0] 109)) ∧ Hid (Ar y2 g 130 (cph (kf k) 176)) ∧ Hid (Below w.heap.size w y2) := by
    have hl : (n.map bv).length = 12 := by rw [List.length_map, NN.out]
    have hr := run_copy_row (P := Tryz.prog) W.drew 25 25 3 5 g6 0 16 16 ⟨w.heap.size + 1, 0, none⟩ 12 12 _ 107 (n.map bv) Tryz.underlying25 (by kernel_rfl) J1.out.drew (by rw [hl]; rfl)
      (fun j u hj => by
        have q := (ar_all' N2.out.drew) j u hj
        rw [Addr.add_lit]
        exact q)
      (by rw [hl, arr_size, List.length_append, zs_len]; simp) (by intro u hu; obtain ⟨x, _, rfl⟩ := List.mem_map.1 hu; rfl)
    rw [hl, non_copy] at hr
    refine ⟨_, hr, hid (J1.out.drew.row), hid (N2.out.drew.rowFar (g' := g6) _ (by have := Z1.out; omega)), hid ?_, hid (C2.out.drew.rowFar (g' := g6) _ (by have := CL.out; omega)), hid (below_row B2.out.drew Z2.out _)⟩
    rw [setRow_other _ _ _ _ (show w.heap.size + 1 + 1 ≠ g6 by have := Z1.out; omega)]
    exact V2.out
  have CB := cut_blk g6
  have CN := cut_non (w.heap.size + 1)
  clear J1 N2 V2 C2 B2
  refine wp_region_still_tail 2 (by kernel_rfl) (by kernel_rfl) ?_
  change wpStill _ _ (World.drew _) (fun a' => wpList _ _ _ _ a' (World.drew _)) _ _
  simp only [List.take_succ_cons, List.take_zero, List.drop_succ_cons, List.drop_zero]
  repeat still_step
  refine wpStill_nil ?_
  go_wp2_with fail
  have ZB := hid (blk_size (jb n) (jb_len n NN.out))
  have V4 : y2.drew.heap[w.heap.size + 1 + 1]? = some (.cells #[.pointer none, .int .u64 0, .int .u64 0, .int .u8 0, .int .u8 0, .int .u8 0, .int .u8 0, .int .u8 0, .int .u8 0, .int .u8 0, .int .u8 0, .int .u8 0, .int .u8 0, .int .u8 0, .int .u8 0, .int .u8 0, .int .u8 0, .int .u8 0, .int .u8 0] 109) := V3.out
  have C4 : Ar y2.drew g 130 (cph (kf k) 176) := C3.out
  refine wp_region_held_drew (S := fun w' => Below w.heap.size w w' ∧ Ar w' g6 107 (jb n)) (by kernel_rfl) ⟨B3.out.drew, J3.out.drew⟩ (fun hH => ?_)
  refine wpAnyH_take (i := 0) (v := .pointer (some ⟨g, 0, none⟩)) (by simp only [List.getElem?_toArray, List.getElem?_cons_zero]; rfl) (by kernel_rfl) (by kernel_rfl) (by kernel_rfl) (by intro _ _ _ h; exact h) (Or.inl ⟨by rfl, fun w hS => by go_simp⟩) hH ?_
  simp only [Act.put, List.setIfInBounds_toArray, List.set_cons_zero, List.set_cons_succ]
  refine wpAnyH_take (i := 1) (v := .pointer (some ⟨g, 0, none⟩)) (by simp only [List.getElem?_toArray, List.getElem?_cons_succ, List.getElem?_cons_zero]; rfl) (by kernel_rfl) (by kernel_rfl) (by kernel_rfl) (by intro _ _ _ h; exact h) (Or.inl ⟨by rfl, fun w hS => by go_simp⟩) hH ?_
  simp only [Act.put, List.setIfInBounds_toArray, List.set_cons_zero, List.set_cons_succ]
  refine wpAnyH_take (i := 2) (v := .agg (arr (zs 16))) (by simp only [List.getElem?_toArray, List.getElem?_cons_succ, List.getElem?_cons_zero]; rfl) (by kernel_rfl) (by kernel_rfl) (by kernel_rfl) (by intro _ _ _ h; exact h) (Or.inl ⟨by rfl, fun w hS => by go_simp; rfl⟩) hH ?_
  simp only [Act.put, List.setIfInBounds_toArray, List.set_cons_zero, List.set_cons_succ]
  refine wpAnyH_take (i := 5) (v := .agg (arr (jb n))) (by simp only [List.getElem?_toArray, List.getElem?_cons_succ, List.getElem?_cons_zero]; rfl) (by kernel_rfl) (by kernel_rfl) (by kernel_rfl) (by intro _ _ _ h; exact h) (yieldsIf_load_mid (by rfl) _ _ rfl g6 0 rfl ((jb n).map bv) _ (fun w hS => ar_all' hS.2) Tryz.underlying107 rfl (by rw [List.length_map, ← arr_size]; exact ZB.out)) hH ?_
  simp only [Act.put, List.setIfInBounds_toArray, List.set_cons_zero, List.set_cons_succ]
  generalize y2.drew = x at hH V4 C4 ⊢
  refine wpAnyH_ready (rs := [3]) (by kernel_rfl) (by simp) ?_
  refine AllReadyH.cons (by simp only [List.getElem?_toArray, List.getElem?_cons_succ, List.getElem?_cons_zero]; rfl) (fun K hK => ?_) AllReadyH.nil
  go_simp
  refine (encr (zs 16) (kf k) g _ (zs_len 16) (zs_byt 16) (kf_lt k yk) C4).mono ?_
  rintro e x3 ⟨rfl, hM⟩
  refine hK.out _ _ ⟨hH.1.trans (hM.mono hH.1.size), hH.2.below hM⟩ (fun hH => ?_)
  clear hK K
  replace V4 := var_below hM V4
  replace C4 := C4.below hM
  clear hM
  refine wpAnyH_ready (rs := [4]) (by kernel_rfl) (by simp) ?_
  refine AllReadyH.cons (by simp only [List.getElem?_toArray, List.getElem?_cons_succ, List.getElem?_cons_zero]; rfl) (fun K hK => ?_) AllReadyH.nil
  go_simp
  refine (elemof (enc (kf k) (zs 16)) _ (stt_len _ _ (zs_len 16) 10) (stt_byt _ (kf_lt k yk) _ (zs_byt 16) 10)).mono ?_
  rintro e x4 ⟨rfl, hM⟩
  refine hK.out _ _ ⟨hH.1.trans (hM.mono hH.1.size), hH.2.below hM⟩ (fun hH => ?_)
  clear hK K
  replace V4 := var_below hM V4
  replace C4 := C4.below hM
  clear hM
  refine wpAnyH_ready (rs := [6]) (by kernel_rfl) (by simp) ?_
  refine AllReadyH.cons (by simp only [List.getElem?_toArray, List.getElem?_cons_succ, List.getElem?_cons_zero]; rfl) (fun K hK => ?_) AllReadyH.nil
  refine step_build (by rfl) _ _ (by rfl) (sc g (elt (enc (kf k) (zs 16))) (jb n)) (sc_eq g (elt (enc (kf k) (zs 16))) (jb n) (jb_len n NN.out) (by simp [Act.eval])) ?_
  refine hK.out _ _ hH (fun hH => ?_)
  clear hK K
  simp only [Act.put, List.setIfInBounds_toArray, List.set_cons_zero, List.set_cons_succ]
  have VN := hid (setRow_heap _ (w.heap.size + 1 + 1) _ (sc g (elt (enc (kf k) (zs 16))) (jb n)) _ _ V4)
  have CN2 := hid (C4.rowFar (g' := w.heap.size + 1 + 1) (sc g (elt (enc (kf k) (zs 16))) (jb n)) (by have := HG.out; omega))
  have BN := hid (below_row hH.1 (g := w.heap.size + 1 + 1) (by omega) (sc g (elt (enc (kf k) (zs 16))) (jb n)))
  have AN := hid (hH.2.rowFar (g' := w.heap.size + 1 + 1) (sc g (elt (enc (kf k) (zs 16))) (jb n)) (by have := Z1.out; omega))
  refine wpAnyH_ready (rs := [7]) (by kernel_rfl) (by simp) ?_
  refine AllReadyH.cons (by simp only [List.getElem?_toArray, List.getElem?_cons_succ, List.getElem?_cons_zero]; rfl) (fun K hK => ?_) AllReadyH.nil
  refine step_store_row (by rfl) _ _ _ (by rfl) (w.heap.size + 1 + 1) (sc g (elt (enc (kf k) (zs 16))) (jb n)) (by rfl) (by rfl) 109 _ V4 (sc_info _ _ _ (jb_len n NN.out)) (zsc_old _ _ _ (jb_len n NN.out)) (sc_one _ _ _) ?_
  refine hK.out _ _ ⟨BN.out, AN.out⟩ (fun _ => ?_)
  clear hK K
  simp only [Act.put]
  refine wpAnyH_done (by kernel_rfl) ?_ _
  go_wp2_with fail
  exact bodyPost_ret (v := .agg (sc g (elt (enc (kf k) (zs 16))) (jb n))) (results_cell_row rfl _ _ (w.heap.size + 1 + 1) 109 _ _ _ rfl VN.out Tryz.underlying109 rfl (sc_info _ _ _ (jb_len n NN.out))) rfl ⟨g, rfl, CN2.out, by have := HG.out; omega, BN.out⟩
end Go.Proofs.YtckgjghpfjinfakGreat.W

namespace Go.Proofs.YtckgjghpfjinfakGreat.W
open Go.ChangeShapes Go.WideShapes Go.ChangeAt Go.RowKit
open Go.Proofs.YtckgjghpfjinfakGreat.M

set_option maxRecDepth 100000 in
theorem awhole (v u : Value) (l m : List Nat) (base : Nat) (w : World) (hv : Own w base v l) (hu : Rd w u m) (hb : base ≤ w.heap.size) (hl : l.length ≤ 100000) (hm : m.length ≤ 100000) (h16 : l.length % 16 = 0) :
    Calls Tryz.prog 78 #[v, u] w fun e w' => ∃ v', e = .returned v' ∧ Own w' base v' (l ++ whole m) ∧ Below base w w' := by
  obtain ⟨p0, c0, rfl, -, -, -⟩ := hv.rd.parts
  obtain ⟨p1, c1, rfl, -, -, -⟩ := hu.parts
  have HV := hid hv
  have HU := hid hu
  have HL := hid hl
  have HM := hid hm
  have HB := hid hb
  clear hv hu
  go_enter Tryz.func78, Tryz.ntmps78
  go_wp2_with (at_builtin; refine list_app rfl _ _ rfl _ _ l m base rfl rfl HV.out HU.out (by omega) hb ?_; intro v1 w1 O G)
  have O1 := hid O
  have B1 := hid (show Below base w w1 from (Below.refl base w).grown G hb (HV.out.row (Nat.le_refl _)))
  have Z1 := hid (Nat.le_trans hb G.size)
  clear O G HV HU
  go_loopw [0] (fun o0 ws => ∃ k : Nat, k ≤ (16 - m.length % 16) % 16 ∧ Hid (Own ws base o0 (l ++ m ++ zs k)) ∧ Hid (Below base w ws) ∧ Hid (base ≤ ws.heap.size)) (fun o0 _ => 64 + l.length + m.length - slen o0)
  case atStart => exact ⟨0, by omega, hid (by rw [show zs 0 = [] from rfl, List.append_nil]; exact O1.out), B1, Z1⟩
  case round =>
    clear O1 B1 Z1
    obtain ⟨k, hk, HO, HBl, HZ⟩ := hrel
    have LK : (l ++ m ++ zs k).length = l.length + m.length + k := by rw [List.length_append, List.length_append, zs_len]
    obtain ⟨p, c, e, -, -, -⟩ := HO.out.rd.parts
    rw [LK] at e
    subst e
    by_cases hlt : k < (16 - m.length % 16) % 16
    · have d1 : (((l.length + m.length + k : Nat) : Int) % 16 != 0) = true := by rw [bne_iff_ne]; omega
      have SN := hid (zs_snoc (l ++ m) k)
      have Q1 := hid (HO.out.below (below_alloc1 wr (.cells #[.int .u8 0] 5)))
      have S2 := hid (own_0 wr).rd
      have R2 := hid (HBl.out.alloc HZ.out (.cells #[.int .u8 0] 5))
      have Z2 := hid (show base ≤ (wr.alloc (.cells #[.int .u8 0] 5)).heap.size by have := HZ.out; simp; omega)
      have LKH := hid LK
      generalize hq : l.length + m.length + k = q at *
      clear HO HBl LK
      go_wp2_with (at_builtin; refine list_app rfl _ _ rfl _ _ (l ++ m ++ zs k) [0] base rfl rfl Q1.out S2.out (by rw [LKH.out]; simp; omega) Z2.out ?_; intro v' w3 O G)
      rw [SN.out] at O
      have hB : Below base w w3 := R2.out.grown G Z2.out (Q1.out.row (Nat.le_refl _))
      have hZ3 := hid (Nat.le_trans Z2.out G.size)
      have hV : slen v' = q + 1 := by
        obtain ⟨p3, c3, rfl, -, -, -⟩ := O.rd.parts
        show (l ++ m ++ zs (k + 1)).length = q + 1
        rw [List.length_append, List.length_append, zs_len]
        omega
      clear G
      go_wp2
      go_roundw
      case rel => exact ⟨k + 1, by omega, hid O, hid hB, hZ3⟩
      case measure => rw [hV]; simp only [slen]; omega
    · have hk8 : k = (16 - m.length % 16) % 16 := by omega
      have d1 : (((l.length + m.length + k : Nat) : Int) % 16 != 0) = false := by rw [bne_eq_false_iff_eq]; omega
      rw [List.append_assoc, whole_at m k hk8] at HO
      generalize l.length + m.length + k = q at *
      go_wp2
      go_ret
      exact ⟨_, rfl, HO.out, HBl.out⟩

set_option maxRecDepth 100000 in
theorem lenbits (p : Option Addr) (n c : Nat) (w : World) (h : n ≤ 1000) :
    Calls Tryz.prog 79 #[.slice p n c] w fun e w' => ∃ v, e = .returned v ∧ Own w' w.heap.size v (packL (8 * n) 8) ∧ Below w.heap.size w w' := by
  have m1 : IntKind.i64.wrap (8 * (n : Int)) = 8 * (n : Int) := by rw [IntKind.wrap_i64]; omega
  have q := ipw_ok (8 * n) 8 w (by omega) (by omega) (by omega) (by have : (256 : Nat) ^ 8 = 18446744073709551616 := by decide
                                                                    omega)
  rw [show ((8 * n : Nat) : Int) = 8 * (n : Int) by omega, show ((8 : Nat) : Int) = 8 from rfl] at q
  have Q := hid q
  clear q
  go_enter Tryz.func79, Tryz.ntmps79
  go_wp2_with fail
  refine Q.out.mono ?_
  rintro e w1 ⟨v, rfl, O, B⟩
  obtain ⟨q, c', rfl, -, -, -⟩ := O.rd.parts
  have hf1 : ∀ (x : Int) (p : Option Addr) (m cc : Nat) (w : World), (Instr.field 31 (.agg #[.int .i64 x, .slice p m cc]) 1).run Tryz.prog w = .ok (.slice p m cc) w := fun _ _ _ _ _ => by kernel_rfl
  go_wp2
  go_ret
  exact ⟨_, rfl, O, B⟩
end Go.Proofs.YtckgjghpfjinfakGreat.W

namespace Go.Proofs.YtckgjghpfjinfakGreat.W
open Go.ChangeShapes Go.WideShapes Go.ChangeAt Go.RowKit
open Go.Proofs.YtckgjghpfjinfakGreat.M

/-- The answer of a function of a block. -/
def blkC (l : List Nat) : Int := if l.length = 16 then 0 else 2
def blkB (f : List Nat → List Nat) (l : List Nat) : List Nat := if l.length = 16 then f l else []
theorem blkB_len (f : List Nat → List Nat) (l : List Nat) (hf : ∀ l : List Nat, l.length = 16 → (f l).length = 16) : (blkB f l).length ≤ 16 := by
  unfold blkB
  split
  · rw [hf l ‹_›]; omega
  · simp
end Go.Proofs.YtckgjghpfjinfakGreat.W

namespace Go.Proofs.YtckgjghpfjinfakGreat.W
open Go.ChangeShapes Go.WideShapes Go.ChangeAt Go.RowKit
open Go.Proofs.YtckgjghpfjinfakGreat.M

theorem isblk (a : Option Addr) (n cap : Nat) (w : World) :
    Calls Tryz.prog 100 #[.slice a n cap] w fun e w' => e = .returned (.bool ((n : Int) == 16)) ∧ w' = w := by
  go_enter Tryz.func100, Tryz.ntmps100
  go_wp2
  go_ret
  exact ⟨rfl, rfl⟩
theorem isblk_yes (a : Option Addr) (cap : Nat) (w : World) :
    Calls Tryz.prog 100 #[.slice a 16 cap] w fun e w' => e = .returned (.bool true) ∧ w' = w := isblk a 16 cap w
theorem isblk_no (a : Option Addr) (n cap : Nat) (hn : n ≠ 16) (w : World) :
    Calls Tryz.prog 100 #[.slice a n cap] w fun e w' => e = .returned (.bool false) ∧ w' = w := by
  have h := isblk a n cap w
  rw [show ((n : Int) == 16) = false by simp; omega] at h
  exact h
end Go.Proofs.YtckgjghpfjinfakGreat.W

namespace Go.Proofs.YtckgjghpfjinfakGreat.W
open Go.ChangeShapes Go.WideShapes Go.ChangeAt Go.RowKit
open Go.Proofs.YtckgjghpfjinfakGreat.M

theorem pzero (w : World) : Calls Tryz.prog 102 #[] w fun e w' => e = .returned (.int .u64 9223372036854775808) ∧ w' = w := by
  go_enter Tryz.func102, Tryz.ntmps102
  go_wp2
  go_ret
  exact ⟨rfl, rfl⟩

theorem gplus (a b c d : Nat) (w : World) (ha : a < 18446744073709551616) (hb : b < 18446744073709551616) (hc : c < 18446744073709551616) (hd : d < 18446744073709551616) :
    Calls Tryz.prog 90 #[.agg #[.int .u64 (a : Int), .int .u64 (b : Int)], .agg #[.int .u64 (c : Int), .int .u64 (d : Int)]] w fun e w' => e = .returned (.agg #[.int .u64 ((a ^^^ c : Nat) : Int), .int .u64 ((b ^^^ d : Nat) : Int)]) ∧ Below w.heap.size w w' := by
  have e1 := u64_xor_nat a c ha hc
  have e2 := u64_xor_nat b d hb hd
  go_enter Tryz.func90, Tryz.ntmps90
  go_wp2
  exact bodyPost_ret (v := .agg #[.int .u64 ((a ^^^ c : Nat) : Int), .int .u64 ((b ^^^ d : Nat) : Int)]) (by simp [results, Tryz.results90, go_sem]) rfl ⟨rfl, below_alloc3 w _ _ _⟩
theorem and1 (a : Nat) (h : a < 18446744073709551616) : bits .and .u64 (a : Int) 1 = ((a % 2 : Nat) : Int) := by
  rw [show (1 : Int) = ((1 : Nat) : Int) from rfl, u64_and_nat _ _ h (by omega), nat_mask1]
theorem odd_yes (a : Nat) (h : a < 18446744073709551616) (h1 : a % 2 = 1) : (bits .and .u64 (a : Int) 1 == 1) = true := by rw [and1 a h, h1]; rfl
theorem odd_no (a : Nat) (h : a < 18446744073709551616) (h1 : ¬ a % 2 = 1) : (bits .and .u64 (a : Int) 1 == 1) = false := by rw [and1 a h, show a % 2 = 0 by omega]; rfl
theorem or_top (a : Nat) (h : a < 9223372036854775808) : bits .or .u64 (a : Int) 9223372036854775808 = ((a ^^^ 9223372036854775808 : Nat) : Int) := by
  rw [show (9223372036854775808 : Int) = ((9223372036854775808 : Nat) : Int) from rfl, u64_or_nat _ _ (by omega) (by omega)]
  congr 1
  apply Nat.eq_of_testBit_eq
  intro k
  rw [Nat.testBit_or, Nat.testBit_xor]
  by_cases hk : k = 63
  · subst hk
    rw [Nat.testBit_lt_two_pow (x := a) (i := 63) h]
    rfl
  · have e : (9223372036854775808 : Nat).testBit k = false := by
      have := Nat.testBit_two_pow (n := 63) (m := k)
      rw [show (9223372036854775808 : Nat) = 2 ^ 63 from rfl, this]
      simp; omega
    rw [e]
    simp

theorem gxV {p : Nat × Nat} {x y : Nat} (h1 : (gx p).1 = x) (h2 : (gx p).2 = y) : ev (gx p) = .agg #[.int .u64 (x : Int), .int .u64 (y : Int)] := by rw [ev, ec, h1, h2]
theorem n225 : ((16212958658533785600 : Nat) : Int) = 16212958658533785600 := rfl
theorem n0 : ((0 : Nat) : Int) = 0 := rfl
set_option maxRecDepth 100000 in
theorem grise (p : Nat × Nat) (w : World) (hp : G64 p) :
    Calls Tryz.prog 103 #[.agg #[.int .u64 (p.1 : Int), .int .u64 (p.2 : Int)], .agg #[.int .u64 16212958658533785600, .int .u64 0]] w fun e w' => e = .returned (ev (gx p)) ∧ Below w.heap.size w w' := by
  obtain ⟨a, b⟩ := p
  obtain ⟨ha, hb⟩ := hp
  simp only at ha hb
  have ea : ((a / 2 : Nat) : Int) = (a : Int) / 2 := by omega
  have eb : ((b / 2 : Nat) : Int) = (b : Int) / 2 := by omega
  by_cases h1 : a % 2 = 1
  · by_cases h2 : b % 2 = 1
    · have c1 := odd_yes a ha h1
      have c2 := odd_yes b hb h2
      have o1 := or_top (b / 2) (by omega)
      have o2 : b / 2 ^^^ 9223372036854775808 < 18446744073709551616 := xlt64 _ _ (by omega) (by omega)
      have q1 := u64_xor_nat (a / 2) 16212958658533785600 (by omega) (by decide)
      have q2 := u64_xor_nat (b / 2 ^^^ 9223372036854775808) 0 o2 (by decide)
      have E := hid (gxV (p := (a, b)) (x := a / 2 ^^^ 16212958658533785600) (y := (b / 2 ^^^ 9223372036854775808) ^^^ 0) (by simp [gx, h2]) (by simp [gx, h1]))
      rw [eb] at o1
      rw [ea] at q1
      simp only [n225, n0] at q1 q2
      clear ea eb
      go_enter Tryz.func103, Tryz.ntmps103
      go_wp2_with fail
      refine wp_region_still_tail 5 (by kernel_rfl) (by kernel_rfl) ?_
      change wpStill _ _ (World.drew _) (fun a' => wpList _ _ _ _ a' (World.drew _)) _ _
      simp only [List.take_succ_cons, List.take_zero, List.drop_succ_cons, List.drop_zero]
      still_step
      still_step
      still_call (pzero _)
      still_step
      still_step
      refine wpStill_nil ?_
      go_wp2
      refine bodyPost_ret (v := .agg #[.int .u64 (((a / 2 ^^^ 16212958658533785600 : Nat) : Int)), .int .u64 ((((b / 2 ^^^ 9223372036854775808) ^^^ 0 : Nat) : Int))]) (by simp [results, Tryz.results90, go_sem]) rfl ?_
      go_wp2
      exact bodyPost_ret (v := .agg #[.int .u64 (((a / 2 ^^^ 16212958658533785600 : Nat) : Int)), .int .u64 ((((b / 2 ^^^ 9223372036854775808) ^^^ 0 : Nat) : Int))]) (by simp [results, Tryz.results103, go_sem]) rfl ⟨by first | (rw [E.out]; done) | (rw [E.out]; rfl), by repeat (first | exact Below.refl _ _ | apply Below.drew | refine Below.alloc ?_ (by simp; try omega) _)⟩
    · have c1 := odd_yes a ha h1
      have c2 := odd_no b hb h2
      have o1 := or_top (b / 2) (by omega)
      have o2 : b / 2 ^^^ 9223372036854775808 < 18446744073709551616 := xlt64 _ _ (by omega) (by omega)
      have E := hid (gxV (p := (a, b)) (x := a / 2) (y := b / 2 ^^^ 9223372036854775808) (by simp [gx, h2]) (by simp [gx, h1]))
      rw [eb] at o1
      clear ea eb
      go_enter Tryz.func103, Tryz.ntmps103
      go_wp2_with fail
      refine wp_region_still_tail 5 (by kernel_rfl) (by kernel_rfl) ?_
      change wpStill _ _ (World.drew _) (fun a' => wpList _ _ _ _ a' (World.drew _)) _ _
      simp only [List.take_succ_cons, List.take_zero, List.drop_succ_cons, List.drop_zero]
      still_step
      still_step
      still_call (pzero _)
      still_step
      still_step
      refine wpStill_nil ?_
      go_wp2
      exact bodyPost_ret (v := .agg #[.int .u64 ((a : Int) / 2), .int .u64 (((b / 2 ^^^ 9223372036854775808 : Nat) : Int))]) (by simp [results, Tryz.results103, go_sem]) rfl ⟨by first | (rw [E.out]; done) | (rw [E.out]; rfl), by repeat (first | exact Below.refl _ _ | apply Below.drew | refine Below.alloc ?_ (by simp; try omega) _)⟩
  · by_cases h2 : b % 2 = 1
    · have c1 := odd_no a ha h1
      have c2 := odd_yes b hb h2
      have q1 := u64_xor_nat (a / 2) 16212958658533785600 (by omega) (by decide)
      have q2 := u64_xor_nat (b / 2) 0 (by omega) (by decide)
      have E := hid (gxV (p := (a, b)) (x := a / 2 ^^^ 16212958658533785600) (y := (b / 2) ^^^ 0) (by simp [gx, h2]) (by simp [gx, h1]))
      rw [ea] at q1
      rw [eb] at q2
      simp only [n225, n0] at q1 q2
      clear ea eb
      go_enter Tryz.func103, Tryz.ntmps103
      go_wp2
      refine bodyPost_ret (v := .agg #[.int .u64 (((a / 2 ^^^ 16212958658533785600 : Nat) : Int)), .int .u64 ((((b / 2) ^^^ 0 : Nat) : Int))]) (by simp [results, Tryz.results90, go_sem]) rfl ?_
      go_wp2
      exact bodyPost_ret (v := .agg #[.int .u64 (((a / 2 ^^^ 16212958658533785600 : Nat) : Int)), .int .u64 ((((b / 2) ^^^ 0 : Nat) : Int))]) (by simp [results, Tryz.results103, go_sem]) rfl ⟨by first | (rw [E.out]; done) | (rw [E.out]; rfl), by repeat (first | exact Below.refl _ _ | apply Below.drew | refine Below.alloc ?_ (by simp; try omega) _)⟩
    · have c1 := odd_no a ha h1
      have c2 := odd_no b hb h2
      have E := hid (gxV (p := (a, b)) (x := a / 2) (y := b / 2) (by simp [gx, h2]) (by simp [gx, h1]))
      clear ea eb
      go_enter Tryz.func103, Tryz.ntmps103
      go_wp2
      exact bodyPost_ret (v := .agg #[.int .u64 ((a : Int) / 2), .int .u64 ((b : Int) / 2)]) (by simp [results, Tryz.results103, go_sem]) rfl ⟨by first | (rw [E.out]; done) | (rw [E.out]; rfl), by repeat (first | exact Below.refl _ _ | apply Below.drew | refine Below.alloc ?_ (by simp; try omega) _)⟩
theorem gplusE (p q : Nat × Nat) (w : World) (hp : G64 p) (hq : G64 q) :
    Calls Tryz.prog 90 #[.agg (ec p), .agg (ec q)] w fun e w' => e = .returned (.agg (ec (ga p q))) ∧ Below w.heap.size w w' := gplus _ _ _ _ w hp.1 hp.2 hq.1 hq.2
theorem griseE (p : Nat × Nat) (w : World) (hp : G64 p) :
    Calls Tryz.prog 103 #[.agg (ec p), .agg (ec (16212958658533785600, 0))] w fun e w' => e = .returned (.agg (ec (gx p))) ∧ Below w.heap.size w w' := grise p w hp
end Go.Proofs.YtckgjghpfjinfakGreat.W

namespace Go.Proofs.YtckgjghpfjinfakGreat.W
open Go.ChangeShapes Go.WideShapes Go.ChangeAt Go.RowKit
open Go.Proofs.YtckgjghpfjinfakGreat.M

theorem idx_two (a b : Int) (n : Nat) (hn : n < 2) (w : World) :
    (Instr.index 151 (.agg #[.int .u64 a, .int .u64 b]) (.int .i64 (n : Int))).run Tryz.prog w = .ok (.int .u64 (if n = 0 then a else b)) w := by
  have hu : Tryz.prog.underlying 151 = some (.array 2 104) := Tryz.underlying151
  rcases (show n = 0 ∨ n = 1 by omega) with rfl | rfl
  · simp [Instr.index, run_underlying hu, asIntOf, part, go_sem]
  · simp [Instr.index, run_underlying hu, asIntOf, part, go_sem]
theorem half_of (q : Nat × Nat) (n : Nat) : (if n = 0 then (q.1 : Int) else (q.2 : Int)) = ((if n = 0 then q.1 else q.2 : Nat) : Int) := by split <;> rfl
theorem fb_half (q : Nat × Nat) (n j : Nat) (hn : n < 2) (hj : j < 64) : fb q (64 * n + j) = (if n = 0 then q.1 else q.2).testBit (63 - j) := by
  unfold fb
  rcases (show n = 0 ∨ n = 1 by omega) with rfl | rfl
  · rw [if_pos (by omega), if_pos rfl, show 63 - (64 * 0 + j) = 63 - j by omega]
  · rw [if_neg (by omega), if_neg (by omega), show 127 - (64 * 1 + j) = 63 - j by omega]
theorem pw_at (j : Nat) (hj : j < 64) : 9223372036854775808 / 2 ^ j = 2 ^ (63 - j) := by
  rw [show (9223372036854775808 : Nat) = 2 ^ 63 from rfl]
  exact Nat.pow_div (by omega) (by omega)
theorem pw_and (f j : Nat) (hf : f < 18446744073709551616) (hj : j < 64) : bits .and .u64 (f : Int) ((9223372036854775808 / 2 ^ j : Nat) : Int) = ((f / 2 ^ (63 - j) % 2 * 2 ^ (63 - j) : Nat) : Int) := by
  have h : 2 ^ (63 - j) < 2 ^ 64 := Nat.pow_lt_pow_right (by omega) (by omega)
  rw [pw_at j hj, u64_and_nat _ _ hf h, nat_bit]
theorem pw_yes (f j : Nat) (hf : f < 18446744073709551616) (hj : j < 64) (h : f.testBit (63 - j) = true) : (bits .and .u64 (f : Int) ((9223372036854775808 / 2 ^ j : Nat) : Int) != 0) = true := by
  have h2 := (tb_eq _ _).1 h
  have h3 : 0 < 2 ^ (63 - j) := Nat.pow_pos (by omega)
  rw [pw_and f j hf hj, h2, bne_iff_ne]
  omega
theorem pw_no (f j : Nat) (hf : f < 18446744073709551616) (hj : j < 64) (h : f.testBit (63 - j) = false) : (bits .and .u64 (f : Int) ((9223372036854775808 / 2 ^ j : Nat) : Int) != 0) = false := by
  have h2 : ¬ f / 2 ^ (63 - j) % 2 = 1 := fun e => by rw [(tb_eq _ _).2 e] at h; cases h
  rw [pw_and f j hf hj, show f / 2 ^ (63 - j) % 2 = 0 by omega]
  simp

/-- Five new variables. -/
theorem five (w : World) (a b c d e : Obj) : ((((((w.alloc a).alloc b).alloc c).alloc d).alloc e).heap[w.heap.size]? = some a) ∧ ((((((w.alloc a).alloc b).alloc c).alloc d).alloc e).heap[w.heap.size + 1 + 1]? = some c) ∧ ((((((w.alloc a).alloc b).alloc c).alloc d).alloc e).heap[w.heap.size + 1 + 1 + 1]? = some d) ∧ ((((((w.alloc a).alloc b).alloc c).alloc d).alloc e).heap[w.heap.size + 1 + 1 + 1 + 1]? = some e) ∧ Below w.heap.size w (((((w.alloc a).alloc b).alloc c).alloc d).alloc e) := by
  refine ⟨var_alloc _ (var_alloc _ (var_alloc _ (var_alloc _ (heap_alloc_new w a)))), ?_, ?_, ?_, by repeat (first | exact Below.refl _ _ | apply Below.drew | refine Below.alloc ?_ (by simp; try omega) _)⟩
  · have h := heap_alloc_new ((w.alloc a).alloc b) c
    simp only [World.size_alloc] at h
    exact var_alloc _ (var_alloc _ h)
  · have h := heap_alloc_new (((w.alloc a).alloc b).alloc c) d
    simp only [World.size_alloc] at h
    exact var_alloc _ h
  · have h := heap_alloc_new ((((w.alloc a).alloc b).alloc c).alloc d) e
    simp only [World.size_alloc] at h
    exact h

set_option maxHeartbeats 1000000 in
set_option maxRecDepth 100000 in
theorem gtimes (p q : Nat × Nat) (w : World) (hp : G64 p) (hq : G64 q) :
    Calls Tryz.prog 99 #[.agg (ec p), .agg (ec q), .agg (ec (16212958658533785600, 0))] w fun e w' => e = .returned (.agg (ec (gmul q p))) ∧ Below w.heap.size w w' := by
  have HP := hid hp
  have HQ := hid hq
  clear hp hq
  obtain ⟨V0, V2, V3, V4, B⟩ := five w (.cells (ec p) 106) (.cells (ec q) 106) (.cells (ec (16212958658533785600, 0)) 106) (.cells (ec g0) 106) (.cells (ec g0) 106)
  have H0 := hid (show El _ _ _ from V0)
  have H2 := hid (show El _ _ _ from V2)
  have H3 := hid (show El _ _ _ from V3)
  have H4 := hid (show El _ _ _ from V4)
  have HB := hid B
  clear V0 V2 V3 V4 B
  show Calls _ _ #[.agg #[.int .u64 (p.1 : Int), .int .u64 (p.2 : Int)], .agg #[.int .u64 (q.1 : Int), .int .u64 (q.2 : Int)], .agg #[.int .u64 16212958658533785600, .int .u64 0]] _ _
  go_enter Tryz.func99, Tryz.ntmps99
  go_wp2_with fail
  go_loopw [9, 10, 16] (fun f9 p10 i16 ws => ∃ n : Nat, ∃ u v : Value, n ≤ 2 ∧ f9 = u ∧ p10 = v ∧ i16 = .int .i64 (n : Nat) ∧ Hid (El ws w.heap.size (gxN p (64 * n))) ∧ Hid (El ws (w.heap.size + 1 + 1) (16212958658533785600, 0)) ∧ Hid (El ws (w.heap.size + 1 + 1 + 1) g0) ∧ Hid (El ws (w.heap.size + 1 + 1 + 1 + 1) (gs (fb q) p (64 * n))) ∧ Hid (Below w.heap.size w ws)) (fun _ _ i16 _ => 2 - (intOf i16).toNat)
  case atStart => exact ⟨0, _, _, by omega, rfl, rfl, rfl, H0, H2, H3, H4, HB⟩
  case round =>
    clear H0 H2 H3 H4 HB
    obtain ⟨n, u, v, hn, rfl, rfl, rfl, H0, H2, H3, H4, HB⟩ := hrel
    by_cases hlt : n < 2
    · have hix := idx_two (q.1 : Int) (q.2 : Int) n hlt
      rw [half_of] at hix
      have HF := hid (fun j (hj : j < 64) => fb_half q n j hlt hj)
      have F64 := hid (show (if n = 0 then q.1 else q.2) < 18446744073709551616 by have h1 := HQ.out.1; have h2 := HQ.out.2; split <;> assumption)
      have n0 : (0 : Int) ≤ (n : Int) := by omega
      have n2 : (n : Int) < 2 := by omega
      generalize (if n = 0 then q.1 else q.2 : Nat) = f at *
      go_wp2_with (go_at_call 102; refine (pzero _).mono ?_; rintro e w' ⟨rfl, rfl⟩)
      go_loopw [10] (fun p10 wt => ∃ j : Nat, j ≤ 64 ∧ p10 = .int .u64 ((9223372036854775808 / 2 ^ j : Nat) : Int) ∧ Hid (El wt w.heap.size (gxN p (64 * n + j))) ∧ Hid (El wt (w.heap.size + 1 + 1) (16212958658533785600, 0)) ∧ Hid (El wt (w.heap.size + 1 + 1 + 1) g0) ∧ Hid (El wt (w.heap.size + 1 + 1 + 1 + 1) (gs (fb q) p (64 * n + j))) ∧ Hid (Below w.heap.size w wt)) (fun p10 _ => (intOf p10).toNat)
      case atStart => exact ⟨0, by omega, rfl, H0, H2, H3, H4, HB⟩
      case round =>
        clear H0 H2 H3 H4 HB
        obtain ⟨j, hj, rfl, I0, I2, I3, I4, IB⟩ := hrel
        by_cases hlj : j < 64
        · have XG := hid (gxN_64 HP.out (64 * n + j))
          have SG := hid (gs_64 (fb q) HP.out (64 * n + j))
          have PP := pw_at j hlj
          have PL : 0 < 2 ^ (63 - j) := Nat.pow_pos (by omega)
          rw [← PP] at PL
          have PN := hid (show Value.int .u64 (((9223372036854775808 / 2 ^ j : Nat) : Int) / 2) = .int .u64 ((9223372036854775808 / 2 ^ (j + 1) : Nat) : Int) by rw [show ((9223372036854775808 / 2 ^ j : Nat) : Int) / 2 = ((9223372036854775808 / 2 ^ j / 2 : Nat) : Int) by omega, Nat.div_div_eq_div_mul, ← Nat.pow_succ])
          have p1 : (((9223372036854775808 / 2 ^ j : Nat) : Int) != 0) = true := by rw [bne_iff_ne]; omega
          have p2 : 9223372036854775808 / 2 ^ j < 18446744073709551616 := Nat.lt_of_le_of_lt (Nat.div_le_self _ _) (by decide)
          have MS := hid (show (intOf (Value.int .u64 (((9223372036854775808 / 2 ^ j : Nat) : Int) / 2))).toNat < (intOf (Value.int .u64 ((9223372036854775808 / 2 ^ j : Nat) : Int))).toNat by simp only [intOf]; omega)
          by_cases hb : f.testBit (63 - j) = true
          · have c1 := pw_yes f j F64.out hlj hb
            have SN := hid (gs_yes (fb q) p (64 * n + j) ((HF.out j hlj).trans hb))
            clear PP HF
            generalize 9223372036854775808 / 2 ^ j = pw at *
            go_wp2_with (first | refine wpList_load_row rfl 106 _ rfl (w.heap.size + 1 + 1 + 1 + 1) rfl 106 (ec (gs (fb q) p (64 * n + j))) _ _ I4.out Tryz.underlying106 rfl (ec_size _) ?_ | refine wpList_load_row rfl 106 _ rfl (w.heap.size) rfl 106 (ec (gxN p (64 * n + j))) _ _ I0.out Tryz.underlying106 rfl (ec_size _) ?_)
            refine (gplusE (gs (fb q) p (64 * n + j)) (gxN p (64 * n + j)) _ SG.out XG.out).mono ?_
            rintro e w1 ⟨rfl, hB⟩
            have Y4 := hid (I4.out.below hB)
            have Y0 := hid ((I0.out.below hB).far (ec (ga (gs (fb q) p (64 * n + j)) (gxN p (64 * n + j)))) (show w.heap.size ≠ w.heap.size + 1 + 1 + 1 + 1 by omega))
            have Y2 := hid ((I2.out.below hB).far (ec (ga (gs (fb q) p (64 * n + j)) (gxN p (64 * n + j)))) (show w.heap.size + 1 + 1 ≠ w.heap.size + 1 + 1 + 1 + 1 by omega))
            have Y3 := hid ((I3.out.below hB).far (ec (ga (gs (fb q) p (64 * n + j)) (gxN p (64 * n + j)))) (show w.heap.size + 1 + 1 + 1 ≠ w.heap.size + 1 + 1 + 1 + 1 by omega))
            have YB := hid (below_row (IB.out.trans (hB.mono IB.out.size)) (show w.heap.size ≤ w.heap.size + 1 + 1 + 1 + 1 by omega) (ec (ga (gs (fb q) p (64 * n + j)) (gxN p (64 * n + j)))))
            have YN := hid (Y4.out.row (q := ga (gs (fb q) p (64 * n + j)) (gxN p (64 * n + j))))
            clear hB
            go_wp2_with (first | refine wpList_store_row rfl 106 _ _ rfl (w.heap.size + 1 + 1 + 1 + 1) (ec (ga (gs (fb q) p (64 * n + j)) (gxN p (64 * n + j)))) rfl rfl 106 _ Y4.out (ec_size _) rfl (ec_one _) ?_ | refine wpList_load_row rfl 106 _ rfl (w.heap.size) rfl 106 (ec (gxN p (64 * n + j))) _ _ Y0.out Tryz.underlying106 rfl (ec_size _) ?_ | refine wpList_load_row rfl 106 _ rfl (w.heap.size + 1 + 1) rfl 106 (ec (16212958658533785600, 0)) _ _ Y2.out Tryz.underlying106 rfl (ec_size _) ?_)
            refine (griseE (gxN p (64 * n + j)) _ XG.out).mono ?_
            rintro e w2 ⟨rfl, hB⟩
            have T0 := hid (Y0.out.below hB)
            have T2 := hid ((Y2.out.below hB).far (ec (gx (gxN p (64 * n + j)))) (show w.heap.size + 1 + 1 ≠ w.heap.size by omega))
            have T3 := hid ((Y3.out.below hB).far (ec (gx (gxN p (64 * n + j)))) (show w.heap.size + 1 + 1 + 1 ≠ w.heap.size by omega))
            have T4 := hid ((YN.out.below hB).far (ec (gx (gxN p (64 * n + j)))) (show w.heap.size + 1 + 1 + 1 + 1 ≠ w.heap.size by omega))
            have TB := hid (below_row (YB.out.trans (hB.mono YB.out.size)) (Nat.le_refl _) (ec (gx (gxN p (64 * n + j)))))
            have TN := hid (T0.out.row (q := gx (gxN p (64 * n + j))))
            clear hB
            go_wp2_with (first | refine wpList_store_row rfl 106 _ _ rfl (w.heap.size) (ec (gx (gxN p (64 * n + j)))) rfl rfl 106 _ T0.out (ec_size _) rfl (ec_one _) ?_)
            refine ⟨⟨j + 1, by omega, ?_, TN, T2, T3, ?_, TB⟩, ?_⟩
            · exact PN.out
            · rw [← Nat.add_assoc, SN.out]; exact T4
            · exact MS.out
          · have hb : f.testBit (63 - j) = false := by simpa using hb
            have c1 := pw_no f j F64.out hlj hb
            have SN := hid (gs_no (fb q) p (64 * n + j) ((HF.out j hlj).trans hb))
            clear PP HF
            generalize 9223372036854775808 / 2 ^ j = pw at *
            go_wp2_with (first | refine wpList_load_row rfl 106 _ rfl (w.heap.size) rfl 106 (ec (gxN p (64 * n + j))) _ _ I0.out Tryz.underlying106 rfl (ec_size _) ?_ | refine wpList_load_row rfl 106 _ rfl (w.heap.size + 1 + 1) rfl 106 (ec (16212958658533785600, 0)) _ _ I2.out Tryz.underlying106 rfl (ec_size _) ?_)
            refine (griseE (gxN p (64 * n + j)) _ XG.out).mono ?_
            rintro e w2 ⟨rfl, hB⟩
            have T0 := hid (I0.out.below hB)
            have T2 := hid ((I2.out.below hB).far (ec (gx (gxN p (64 * n + j)))) (show w.heap.size + 1 + 1 ≠ w.heap.size by omega))
            have T3 := hid ((I3.out.below hB).far (ec (gx (gxN p (64 * n + j)))) (show w.heap.size + 1 + 1 + 1 ≠ w.heap.size by omega))
            have T4 := hid ((I4.out.below hB).far (ec (gx (gxN p (64 * n + j)))) (show w.heap.size + 1 + 1 + 1 + 1 ≠ w.heap.size by omega))
            have TB := hid (below_row (IB.out.trans (hB.mono IB.out.size)) (Nat.le_refl _) (ec (gx (gxN p (64 * n + j)))))
            have TN := hid (T0.out.row (q := gx (gxN p (64 * n + j))))
            clear hB
            go_wp2_with (first | refine wpList_store_row rfl 106 _ _ rfl (w.heap.size) (ec (gx (gxN p (64 * n + j)))) rfl rfl 106 _ T0.out (ec_size _) rfl (ec_one _) ?_)
            refine ⟨⟨j + 1, by omega, ?_, TN, T2, T3, ?_, TB⟩, ?_⟩
            · exact PN.out
            · rw [← Nat.add_assoc, SN.out]; exact T4
            · exact MS.out
        · have hj64 : j = 64 := by omega
          subst hj64
          rw [show 9223372036854775808 / 2 ^ 64 = 0 from rfl]
          go_wp2_with fail
          refine ⟨⟨n + 1, _, _, by omega, rfl, rfl, num_succ n, I0, I2, I3, I4, IB⟩, ?_⟩
          simp [intOf]
          omega
    · have hn2 : n = 2 := by omega
      subst hn2
      go_wp2_with (first | refine wpList_load_row rfl 106 _ rfl (w.heap.size + 1 + 1 + 1 + 1) rfl 106 (ec (gmul q p)) _ _ H4.out Tryz.underlying106 rfl (ec_size _) ?_ | refine wpList_store_row rfl 106 _ _ rfl (w.heap.size + 1 + 1 + 1) (ec (gmul q p)) rfl rfl 106 _ H3.out (ec_size _) rfl (ec_one _) ?_)
      exact bodyPost_ret (v := .agg (ec (gmul q p))) (results_cell_row rfl _ _ (w.heap.size + 1 + 1 + 1) 106 _ _ _ rfl (H3.out.row (q := gmul q p)) Tryz.underlying106 rfl (ec_size _)) rfl ⟨rfl, below_row HB.out (by omega) _⟩
end Go.Proofs.YtckgjghpfjinfakGreat.W

namespace Go.Proofs.YtckgjghpfjinfakGreat.W
open Go.ChangeShapes Go.WideShapes Go.ChangeAt Go.RowKit
open Go.Proofs.YtckgjghpfjinfakGreat.M

set_option maxHeartbeats 1000000 in
set_option maxRecDepth 100000 in
theorem blkofel (p : Nat × Nat) (w : World) (hp : G64 p) :
    Calls Tryz.prog 92 #[.agg (ec p)] w fun e w' => e = .returned (.agg (arr (eb p))) ∧ Below w.heap.size w w' := by
  have HP := hid hp
  clear hp
  have V0 := heap_alloc_new w (.cells (ec p) 106)
  have A1 := Ar.new (w.alloc (.cells (ec p) 106)) 107 (zs 16)
  have A2 := Ar.new ((w.alloc (.cells (ec p) 106)).alloc (.cells (arr (zs 16)) 107)) 107 (zs 16)
  simp only [World.size_alloc] at A1 A2
  have H0 := hid (show El _ _ _ from var_alloc (.cells (arr (zs 16)) 107) (var_alloc (.cells (arr (zs 16)) 107) V0))
  have H1 := hid (A1.alloc (.cells (arr (zs 16)) 107))
  have H2 := hid A2
  have HB := hid (below_alloc3 w (.cells (ec p) 106) (.cells (arr (zs 16)) 107) (.cells (arr (zs 16)) 107))
  clear V0 A1 A2
  go_enter Tryz.func92, Tryz.ntmps92
  go_wp2_with fail
  go_loopw [4] (fun i4 ws => ∃ k : Nat, k ≤ 8 ∧ i4 = .int .i64 (7 - (k : Int)) ∧ Hid (El ws w.heap.size (p.1 / 256 ^ k, p.2 / 256 ^ k)) ∧ Hid (Ar ws (w.heap.size + 1) 107 (zs 16)) ∧ Hid (Ar ws (w.heap.size + 1 + 1) 107 (rk (gt (eb p)) k)) ∧ Hid (Below w.heap.size w ws)) (fun i4 _ => (intOf i4 + 1).toNat)
  case atStart => exact ⟨0, by omega, rfl, hid (by rw [Nat.pow_zero, Nat.div_one, Nat.div_one]; exact H0.out), H1, H2, HB⟩
  case round =>
    clear H0 H1 H2 HB
    obtain ⟨k, hk, rfl, H0, H1, H2, HB⟩ := hrel
    by_cases hlt : k < 8
    · obtain ⟨t, ht⟩ : ∃ t : Nat, t + k = 7 := ⟨7 - k, by omega⟩
      rw [show 7 - (k : Int) = (t : Int) by omega]
      obtain ⟨c0, f0⟩ := H0.out.cell0
      obtain ⟨c1, f1⟩ := H0.out.cell1
      simp only at c0 c1
      have d0 := H2.out.cell t (by rw [rk_len]; omega)
      have g0' := H2.out.open t
      have E0 := eb_lo p k t hlt ht
      have E1 := eb_hi p k t (8 + t) hlt ht rfl
      have RS := hid (rk_set (gt (eb p)) k t (8 + t) hlt ht rfl)
      have S1 := H2.out.stored t (gt (eb p) t)
      have d1 := H2.out.cell (8 + t) (by rw [rk_len]; omega)
      have g1' := H2.out.open (8 + t)
      have S2 := (S1.stored (8 + t) (gt (eb p) (8 + t)))
      have S1B := HB.out.setCell (p := ⟨w.heap.size + 1 + 1, t, none⟩) (by show w.heap.size ≤ w.heap.size + 1 + 1; omega) (.int .u8 (gt (eb p) t : Nat))
      have S2B := (S1B.setCell (p := ⟨w.heap.size + 1 + 1, 8 + t, none⟩) (by show w.heap.size ≤ w.heap.size + 1 + 1; omega) (.int .u8 (gt (eb p) (8 + t) : Nat)))
      have S2E := ((H0.out.cfar (g' := w.heap.size + 1 + 1) (k := t) (.int .u8 (gt (eb p) t : Nat)) (by omega)).cfar (g' := w.heap.size + 1 + 1) (k := 8 + t) (.int .u8 (gt (eb p) (8 + t) : Nat)) (by omega))
      have S2R := ((H1.out.far (g' := w.heap.size + 1 + 1) (k := t) (.int .u8 (gt (eb p) t : Nat)) (by omega)).far (g' := w.heap.size + 1 + 1) (k := 8 + t) (.int .u8 (gt (eb p) (8 + t) : Nat)) (by omega))
      rw [RS.out] at S2
      clear S1 S1B RS
      generalize gt (eb p) t = x at *
      generalize gt (eb p) (8 + t) = z at *
      have P0 := hid (pow_step p.1 k)
      have P1 := hid (pow_step p.2 k)
      have q0 : p.1 / 256 ^ k < 18446744073709551616 := Nat.lt_of_le_of_lt (Nat.div_le_self _ _) HP.out.1
      have q1 : p.2 / 256 ^ k < 18446744073709551616 := Nat.lt_of_le_of_lt (Nat.div_le_self _ _) HP.out.2
      generalize p.1 / 256 ^ k = a at *
      generalize p.2 / 256 ^ k = b at *
      have e0 : (x : Int) = IntKind.u8.wrap (a : Int) := by rw [IntKind.wrap_u8']; omega
      have e1 : (z : Int) = IntKind.u8.wrap (b : Int) := by rw [IntKind.wrap_u8']; omega
      have wn : IntKind.i64.wrap (8 + (t : Int)) = 8 + (t : Int) := by rw [IntKind.wrap_i64]; omega
      have t0 : (0 : Int) ≤ (t : Int) := by omega
      have t1 : (t : Int) < 16 := by omega
      have k0 : (0 : Int) ≤ 8 + (t : Int) := by omega
      have k1 : 8 + (t : Int) < 16 := by omega
      rw [show 8 + t = (8 + (t : Int)).toNat by omega] at d1 g1' S2 S2B S2E S2R
      rw [e0, e1] at S2 S2B S2E S2R
      replace S2 := hid S2
      replace S2B := hid S2B
      replace S2E := hid S2E
      replace S2R := hid S2R
      clear e0 e1
      go_wp2_with fail
      go_region
      all_goals
        clear c0 c1 f0 f1 d0 d1 g0' g1'
        generalize (wr.setCell ⟨w.heap.size + 1 + 1, t, none⟩ (.int .u8 (IntKind.u8.wrap (a : Int)))).setCell ⟨w.heap.size + 1 + 1, (8 + (t : Int)).toNat, none⟩ (.int .u8 (IntKind.u8.wrap (b : Int))) = W at *
        obtain ⟨c0, f0⟩ := S2E.out.cell0
        obtain ⟨c1, f1⟩ := S2E.out.cell1
        simp only at c0 c1
        have U0 := hid ((S2E.out.set0 (a / 256)).set1 (b / 256))
        have U1 := hid ((S2R.out.far (g' := w.heap.size) (k := 0) (.int .u64 ((a / 256 : Nat) : Int)) (by omega)).far (g' := w.heap.size) (k := 1) (.int .u64 ((b / 256 : Nat) : Int)) (by omega))
        have U2 := hid ((S2.out.far (g' := w.heap.size) (k := 0) (.int .u64 ((a / 256 : Nat) : Int)) (by omega)).far (g' := w.heap.size) (k := 1) (.int .u64 ((b / 256 : Nat) : Int)) (by omega))
        have UB := hid ((S2B.out.setCell (p := ⟨w.heap.size, 0, none⟩) (Nat.le_refl _) (.int .u64 ((a / 256 : Nat) : Int))).setCell (p := ⟨w.heap.size, 1, none⟩) (Nat.le_refl _) (.int .u64 ((b / 256 : Nat) : Int)))
        go_wp2
        exact ⟨⟨k + 1, by omega, i64_eq (by omega), hid (by rw [← P0.out, ← P1.out]; exact U0.out.drew), hid U1.out.drew, hid U2.out.drew, hid UB.out.drew⟩, by simp [intOf]⟩
    · have hk8 : k = 8 := by omega
      subst hk8
      rw [rk_end] at H2
      have Z := hid (blk_size (eb p) (eb_len p))
      go_wp2_with (first | refine wpList_load_row rfl 107 _ rfl (w.heap.size + 1 + 1) rfl 107 (arr (eb p)) _ _ H2.out Tryz.underlying107 rfl Z.out ?_ | refine wpList_store_row rfl 107 _ _ rfl (w.heap.size + 1) (arr (eb p)) rfl rfl 107 _ H1.out Z.out (by rw [arr_size, arr_size, eb_len]; rfl) (arr_one _) ?_)
      exact bodyPost_ret (v := .agg (arr (eb p))) (results_cell_row rfl _ _ (w.heap.size + 1) 107 _ _ _ rfl (H1.out.row (l' := eb p)) Tryz.underlying107 rfl Z.out) rfl ⟨rfl, below_row HB.out (by omega) _⟩

/-- A slice that is a block. -/
theorem blkof (v : Value) (l : List Nat) (w : World) (h : Rd w v l) (hl : l.length = 16) :
    Calls Tryz.prog 91 #[v] w fun e w' => e = .returned (.agg (arr l)) ∧ Below w.heap.size w w' := by
  obtain ⟨b, o, cap, rfl, -, hb⟩ := h.spot (by omega)
  rw [hl] at h ⊢
  have Z := hid (blk_size l hl)
  have P2 := arr_at 107 5 16 Tryz.underlying107 (some ⟨b, o, none⟩) 16 cap (Nat.le_refl _)
  have R := hid (rangeAt.below (rd_range h) (below_alloc1 w (.cells (arr (zs 16)) 107)))
  have V := hid (Ar.new w 107 (zs 16))
  clear h
  go_enter Tryz.func91, Tryz.ntmps91
  go_wp2_with (first | (go_at_call 100; refine (isblk_yes _ _ _).mono ?_; rintro e w' ⟨rfl, rfl⟩) | refine load_sub rfl 107 _ rfl b o rfl l R.out _ Tryz.underlying107 rfl Z.out ?_ | refine wpList_store_row rfl 107 _ _ rfl w.heap.size (arr l) rfl rfl 107 _ V.out Z.out (by rw [arr_size, arr_size, hl]; rfl) (arr_one _) ?_)
  exact bodyPost_ret (v := .agg (arr l)) (results_cell_row rfl _ _ w.heap.size 107 _ _ _ rfl (V.out.row (l' := l)) Tryz.underlying107 rfl Z.out) rfl ⟨rfl, below_row (below_alloc1 w _) (Nat.le_refl _) _⟩

theorem blkof_no (v : Value) (l : List Nat) (w : World) (h : Rd w v l) (hl : l.length ≠ 16) :
    Calls Tryz.prog 91 #[v] w fun e w' => e = .panicked [{ v := .iface 9 (.string { data := #[110, 111, 32, 98, 108, 111, 99, 107] }), recovered := false }] ∧ Below w.heap.size w w' := by
  obtain ⟨p, cap, rfl, -, -, -⟩ := h.parts
  clear h
  have H := hid hl
  clear hl
  go_enter Tryz.func91, Tryz.ntmps91
  go_wp2_with (first | (go_at_call 100; refine (isblk_no _ _ _ H.out _).mono ?_; rintro e w' ⟨rfl, rfl⟩))
  exact ⟨rfl, rfl, below_alloc1 w _⟩
theorem gprod (p q : Nat × Nat) (w : World) (hp : G64 p) (hq : G64 q) :
    Calls Tryz.prog 89 #[.agg (ec p), .agg (ec q)] w fun e w' => e = .returned (.agg (ec (gmul q p))) ∧ Below w.heap.size w w' := by
  have V2 := heap_alloc_new ((w.alloc (.cells (ec p) 106)).alloc (.cells (ec q) 106)) (.cells (ec g0) 106)
  simp only [World.size_alloc] at V2
  have H2 := hid (show El _ _ _ from V2)
  have HB := hid (below_alloc3 w (.cells (ec p) 106) (.cells (ec q) 106) (.cells (ec g0) 106))
  clear V2
  show Calls _ _ #[.agg #[.int .u64 (p.1 : Int), .int .u64 (p.2 : Int)], .agg #[.int .u64 (q.1 : Int), .int .u64 (q.2 : Int)]] _ _
  go_enter Tryz.func89, Tryz.ntmps89
  go_wp2_with fail
  refine (gtimes p q _ hp hq).mono ?_
  rintro e w1 ⟨rfl, hB⟩
  have K2 := hid (H2.out.below hB)
  have KB := hid (HB.out.trans (hB.mono HB.out.size))
  clear hB
  go_wp2_with (refine wpList_store_row rfl 106 _ _ rfl (w.heap.size + 1 + 1) (ec (gmul q p)) rfl rfl 106 _ K2.out (ec_size _) rfl (ec_one _) ?_)
  exact bodyPost_ret (v := .agg (ec (gmul q p))) (results_cell_row rfl _ _ (w.heap.size + 1 + 1) 106 _ _ _ rfl (K2.out.row (q := gmul q p)) Tryz.underlying106 rfl (ec_size _)) rfl ⟨rfl, below_row KB.out (by omega) _⟩
end Go.Proofs.YtckgjghpfjinfakGreat.W

namespace Go.Proofs.YtckgjghpfjinfakGreat.W
open Go.ChangeShapes Go.WideShapes Go.ChangeAt Go.RowKit
open Go.Proofs.YtckgjghpfjinfakGreat.M

theorem El.range {w : World} {g : Nat} {p : Nat × Nat} (h : El w g p) : w.rangeAt g 0 (ec p).toList := fun j v hv => by
  rw [cell_of_row w g (0 + j) _ _ _ h, Nat.zero_add]
  simpa using hv
theorem hsh_next (h : Nat × Nat) (hh : G64 h) (d : List Nat) (yd : Byt d) (n : Nat) : gmul h (ga (hsh h d n) (elt (sub d (16 * n) 16))) = hsh h d (n + 1) := by
  rw [hsh, gmul_comm _ _ hh (ga_64 (hsh_64 h hh d n) (elt_64 _ (sub_byt d yd _ _)))]

set_option maxHeartbeats 2000000 in
set_option maxRecDepth 100000 in
theorem hashof (h : Nat × Nat) (vd : Value) (d : List Nat) (w : World) (hd : Rd w vd d) (yd : Byt d) (hh : G64 h) (nd : d.length ≤ 1048576) (n16 : d.length % 16 = 0) :
    Calls Tryz.prog 81 #[.agg (ec h), vd] w fun e w' => e = .returned (.agg (arr (eb (hsh h d (d.length / 16))))) ∧ Below w.heap.size w w' := by
  obtain ⟨pd, capd, rfl, ecd, -, hcd⟩ := hd.parts
  have HD := hid hd
  have HC := hid hcd
  have HG := hid hh
  clear hd hcd hh
  have V0 := heap_alloc_new w (.cells (ec h) 106)
  have A1 := Ar.new (w.alloc (.cells (ec h) 106)) 107 (zs 16)
  have V2 := heap_alloc_new ((w.alloc (.cells (ec h) 106)).alloc (.cells (arr (zs 16)) 107)) (.cells (ec g0) 106)
  simp only [World.size_alloc] at A1 V2
  have H0 := hid (show El _ _ _ from var_alloc (.cells (ec g0) 106) (var_alloc (.cells (arr (zs 16)) 107) V0))
  have H1 := hid (A1.alloc (.cells (ec g0) 106))
  have H2 := hid (show El _ _ _ from V2)
  have HB := hid (below_alloc3 w (.cells (ec h) 106) (.cells (arr (zs 16)) 107) (.cells (ec g0) 106))
  clear V0 A1 V2
  go_enter Tryz.func81, Tryz.ntmps81
  go_wp2_with fail
  go_loopw [6, 7] (fun a6 e7 ws => ∃ n : Nat, ∃ u : Value, 16 * n ≤ d.length ∧ e7 = u ∧ a6 = .int .i64 ((16 * n : Nat) : Int) ∧ Hid (El ws w.heap.size h) ∧ Hid (Ar ws (w.heap.size + 1) 107 (zs 16)) ∧ Hid (El ws (w.heap.size + 1 + 1) (hsh h d n)) ∧ Hid (Below w.heap.size w ws)) (fun a6 _ _ => d.length - (intOf a6).toNat)
  case atStart => exact ⟨0, _, by omega, rfl, rfl, H0, H1, H2, HB⟩
  case round =>
    clear H0 H1 H2 HB
    obtain ⟨n, u, hn, rfl, rfl, H0, H1, H2, HB⟩ := hrel
    by_cases hlt : 16 * n < d.length
    · obtain ⟨b, o, rfl, -⟩ := HC.out 0 (by omega)
      have RP := run_piece b o d.length capd (16 * n) 16 (by omega) (by omega)
      have PD := hid (rd_piece (HD.out.below HB.out) (16 * n) 16 (by omega))
      have SL := hid (sub_len d (16 * n) 16 (by omega))
      have SY := hid (sub_byt d yd (16 * n) 16)
      have c1 : ((16 * n : Nat) : Int) < (d.length : Int) := by omega
      have m0 : (0 : Int) ≤ ((16 * n : Nat) : Int) := by omega
      have HM := hid (show 16 * n + 16 = 16 * (n + 1) by omega)
      have HM2 := hid (show 16 * (n + 1) ≤ d.length by omega)
      have XN := hid (hsh_next h HG.out d yd n)
      have XG := hid (hsh_64 h HG.out d n)
      have mn : min (((16 * n : Nat) : Int) + 16) (d.length : Int) = ((16 * n + 16 : Nat) : Int) := by omega
      generalize 16 * n = m at *
      generalize sub d m 16 = s at *
      generalize hsh h d n = q at *
      rw [show ((m + 16 : Nat) : Int) = (m : Int) + 16 by omega] at RP
      go_wp2_with fail
      have V5 : El wr.drew (w.heap.size + 1 + 1) q := H2.out
      have A4 : Ar wr.drew (w.heap.size + 1) 107 (zs 16) := H1.out
      have PQ : Rd wr.drew (.slice (some ⟨b, o + m, none⟩) 16 (capd - m)) s := PD.out
      refine wp_region_held_drew (S := (fun w' => Below w.heap.size w w' ∧ El w' w.heap.size h)) (by kernel_rfl) ⟨HB.out.drew, H0.out.drew⟩ (fun hH => ?_)
      refine wpAnyH_take (i := 1) (v := .slice (some ⟨b, o, none⟩) d.length capd) (by simp only [List.getElem?_toArray, List.getElem?_cons_succ, List.getElem?_cons_zero]; rfl) (by kernel_rfl) (by kernel_rfl) (by kernel_rfl) (by intro _ _ _ h; exact h) (Or.inl ⟨by rfl, fun w hS => by go_simp⟩) hH ?_
      simp only [Act.put, List.setIfInBounds_toArray, List.set_cons_zero, List.set_cons_succ]
      refine wpAnyH_take (i := 2) (v := .int .i64 (m : Int)) (by simp only [List.getElem?_toArray, List.getElem?_cons_succ, List.getElem?_cons_zero]; rfl) (by kernel_rfl) (by kernel_rfl) (by kernel_rfl) (by intro _ _ _ h; exact h) (Or.inl ⟨by rfl, fun w hS => by go_simp⟩) hH ?_
      simp only [Act.put, List.setIfInBounds_toArray, List.set_cons_zero, List.set_cons_succ]
      refine wpAnyH_take (i := 3) (v := .int .i64 ((m : Int) + 16)) (by simp only [List.getElem?_toArray, List.getElem?_cons_succ, List.getElem?_cons_zero]; rfl) (by kernel_rfl) (by kernel_rfl) (by kernel_rfl) (by intro _ _ _ h; exact h) (Or.inl ⟨by rfl, fun w hS => by go_simp⟩) hH ?_
      simp only [Act.put, List.setIfInBounds_toArray, List.set_cons_zero, List.set_cons_succ]
      refine wpAnyH_take (i := 4) (v := .slice (some ⟨b, o + m, none⟩) 16 (capd - m)) (by simp only [List.getElem?_toArray, List.getElem?_cons_succ, List.getElem?_cons_zero]; rfl) (by kernel_rfl) (by kernel_rfl) (by kernel_rfl) (by intro _ _ _ h; exact h) (Or.inl ⟨by rfl, fun w hS => by go_simp⟩) hH ?_
      simp only [Act.put, List.setIfInBounds_toArray, List.set_cons_zero, List.set_cons_succ]
      refine wpAnyH_take (i := 8) (v := .agg (ec h)) (by simp only [List.getElem?_toArray, List.getElem?_cons_succ, List.getElem?_cons_zero]; rfl) (by kernel_rfl) (by kernel_rfl) (by kernel_rfl) (by intro _ _ _ h; exact h) (Or.inl ⟨by rfl, fun w hS => by have c0 := hS.2.cell0.1; have c1 := hS.2.cell1.1; unfold ec; go_simp⟩) hH ?_
      simp only [Act.put, List.setIfInBounds_toArray, List.set_cons_zero, List.set_cons_succ]
      generalize wr.drew = x at *
      refine wpAnyH_ready (rs := [0, 5]) (by kernel_rfl) (by simp) ?_
      refine AllReadyH.cons (by simp only [List.getElem?_toArray, List.getElem?_cons_zero]; rfl) (fun K hK => ?_) ?_
      · obtain ⟨c0, -⟩ := V5.cell0
        obtain ⟨c1, -⟩ := V5.cell1
        go_simp
        refine hK.out _ _ hH (fun hH => ?_)
        clear hK K c0 c1
        refine wpAnyH_ready (rs := [5]) (by kernel_rfl) (by simp) ?_
        refine AllReadyH.cons (by simp only [List.getElem?_toArray, List.getElem?_cons_succ, List.getElem?_cons_zero]; rfl) (fun K hK => ?_) AllReadyH.nil
        go_simp
        refine (blkof _ s _ PQ SL.out).mono ?_
        rintro e x5 ⟨rfl, hM⟩
        refine hK.out _ _ ⟨hH.1.trans (hM.mono hH.1.size), hH.2.below hM⟩ (fun hH => ?_)
        clear hK K
        replace V5 := V5.below hM
        replace A4 := A4.below hM
        replace PQ := PQ.below hM
        clear hM
        refine wpAnyH_ready (rs := [6]) (by kernel_rfl) (by simp) ?_
        refine AllReadyH.cons (by simp only [List.getElem?_toArray, List.getElem?_cons_succ, List.getElem?_cons_zero]; rfl) (fun K hK => ?_) AllReadyH.nil
        go_simp
        refine (elemof s _ SL.out SY.out).mono ?_
        rintro e x6 ⟨rfl, hM⟩
        refine hK.out _ _ ⟨hH.1.trans (hM.mono hH.1.size), hH.2.below hM⟩ (fun hH => ?_)
        clear hK K
        replace V5 := V5.below hM
        replace A4 := A4.below hM
        replace PQ := PQ.below hM
        clear hM
        refine wpAnyH_ready (rs := [7]) (by kernel_rfl) (by simp) ?_
        refine AllReadyH.cons (by simp only [List.getElem?_toArray, List.getElem?_cons_succ, List.getElem?_cons_zero]; rfl) (fun K hK => ?_) AllReadyH.nil
        go_simp
        refine (gplusE q (elt s) _ XG.out (elt_64 s SY.out)).mono ?_
        rintro e x7 ⟨rfl, hM⟩
        refine hK.out _ _ ⟨hH.1.trans (hM.mono hH.1.size), hH.2.below hM⟩ (fun hH => ?_)
        clear hK K
        replace V5 := V5.below hM
        replace A4 := A4.below hM
        replace PQ := PQ.below hM
        clear hM
        refine wpAnyH_ready (rs := [9]) (by kernel_rfl) (by simp) ?_
        refine AllReadyH.cons (by simp only [List.getElem?_toArray, List.getElem?_cons_succ, List.getElem?_cons_zero]; rfl) (fun K hK => ?_) AllReadyH.nil
        go_simp
        refine (gprod (ga q (elt s)) h _ (ga_64 XG.out (elt_64 s SY.out)) HG.out).mono ?_
        rintro e x9 ⟨rfl, hM⟩
        refine hK.out _ _ ⟨hH.1.trans (hM.mono hH.1.size), hH.2.below hM⟩ (fun hH => ?_)
        clear hK K
        replace V5 := V5.below hM
        replace A4 := A4.below hM
        replace PQ := PQ.below hM
        clear hM
        rw [XN.out]
        refine wpAnyH_ready (rs := [10]) (by kernel_rfl) (by simp) ?_
        refine AllReadyH.cons (by simp only [List.getElem?_toArray, List.getElem?_cons_succ, List.getElem?_cons_zero]; rfl) (fun K hK => ?_) AllReadyH.nil
        refine step_store_row (by rfl) _ _ _ (by rfl) (w.heap.size + 1 + 1) (ec (hsh h d (n + 1))) (by rfl) (by rfl) 106 _ V5 (ec_size _) rfl (ec_one _) ?_
        have V6 := V5.row (q := hsh h d (n + 1))
        have A6 := A4.rowFar (g' := w.heap.size + 1 + 1) (ec (hsh h d (n + 1))) (by omega)
        have B6 := below_row hH.1 (g := w.heap.size + 1 + 1) (by omega) (ec (hsh h d (n + 1)))
        have E6 := hH.2.far (g' := w.heap.size + 1 + 1) (ec (hsh h d (n + 1))) (by omega)
        refine hK.out _ _ ⟨B6, E6⟩ (fun hH => ?_)
        clear hK K
        simp only [Act.put]
        refine wpAnyH_done (by kernel_rfl) ?_ _
        go_wp2_with fail
        exact ⟨⟨n + 1, _, HM2.out, rfl, i64_eq (by have := HM.out; omega), hid E6, hid A6, hid V6, hid B6⟩, by simp [intOf]; omega⟩
      refine AllReadyH.cons (by simp only [List.getElem?_toArray, List.getElem?_cons_succ, List.getElem?_cons_zero]; rfl) (fun K hK => ?_) ?_
      · go_simp
        refine (blkof _ s _ PQ SL.out).mono ?_
        rintro e x5 ⟨rfl, hM⟩
        refine hK.out _ _ ⟨hH.1.trans (hM.mono hH.1.size), hH.2.below hM⟩ (fun hH => ?_)
        clear hK K
        replace V5 := V5.below hM
        replace A4 := A4.below hM
        replace PQ := PQ.below hM
        clear hM
        refine wpAnyH_ready (rs := [0, 6]) (by kernel_rfl) (by simp) ?_
        refine AllReadyH.cons (by simp only [List.getElem?_toArray, List.getElem?_cons_zero]; rfl) (fun K hK => ?_) ?_
        · obtain ⟨c0, -⟩ := V5.cell0
          obtain ⟨c1, -⟩ := V5.cell1
          go_simp
          refine hK.out _ _ hH (fun hH => ?_)
          clear hK K c0 c1
          refine wpAnyH_ready (rs := [6]) (by kernel_rfl) (by simp) ?_
          refine AllReadyH.cons (by simp only [List.getElem?_toArray, List.getElem?_cons_succ, List.getElem?_cons_zero]; rfl) (fun K hK => ?_) AllReadyH.nil
          go_simp
          refine (elemof s _ SL.out SY.out).mono ?_
          rintro e x6 ⟨rfl, hM⟩
          refine hK.out _ _ ⟨hH.1.trans (hM.mono hH.1.size), hH.2.below hM⟩ (fun hH => ?_)
          clear hK K
          replace V5 := V5.below hM
          replace A4 := A4.below hM
          replace PQ := PQ.below hM
          clear hM
          refine wpAnyH_ready (rs := [7]) (by kernel_rfl) (by simp) ?_
          refine AllReadyH.cons (by simp only [List.getElem?_toArray, List.getElem?_cons_succ, List.getElem?_cons_zero]; rfl) (fun K hK => ?_) AllReadyH.nil
          go_simp
          refine (gplusE q (elt s) _ XG.out (elt_64 s SY.out)).mono ?_
          rintro e x7 ⟨rfl, hM⟩
          refine hK.out _ _ ⟨hH.1.trans (hM.mono hH.1.size), hH.2.below hM⟩ (fun hH => ?_)
          clear hK K
          replace V5 := V5.below hM
          replace A4 := A4.below hM
          replace PQ := PQ.below hM
          clear hM
          refine wpAnyH_ready (rs := [9]) (by kernel_rfl) (by simp) ?_
          refine AllReadyH.cons (by simp only [List.getElem?_toArray, List.getElem?_cons_succ, List.getElem?_cons_zero]; rfl) (fun K hK => ?_) AllReadyH.nil
          go_simp
          refine (gprod (ga q (elt s)) h _ (ga_64 XG.out (elt_64 s SY.out)) HG.out).mono ?_
          rintro e x9 ⟨rfl, hM⟩
          refine hK.out _ _ ⟨hH.1.trans (hM.mono hH.1.size), hH.2.below hM⟩ (fun hH => ?_)
          clear hK K
          replace V5 := V5.below hM
          replace A4 := A4.below hM
          replace PQ := PQ.below hM
          clear hM
          rw [XN.out]
          refine wpAnyH_ready (rs := [10]) (by kernel_rfl) (by simp) ?_
          refine AllReadyH.cons (by simp only [List.getElem?_toArray, List.getElem?_cons_succ, List.getElem?_cons_zero]; rfl) (fun K hK => ?_) AllReadyH.nil
          refine step_store_row (by rfl) _ _ _ (by rfl) (w.heap.size + 1 + 1) (ec (hsh h d (n + 1))) (by rfl) (by rfl) 106 _ V5 (ec_size _) rfl (ec_one _) ?_
          have V6 := V5.row (q := hsh h d (n + 1))
          have A6 := A4.rowFar (g' := w.heap.size + 1 + 1) (ec (hsh h d (n + 1))) (by omega)
          have B6 := below_row hH.1 (g := w.heap.size + 1 + 1) (by omega) (ec (hsh h d (n + 1)))
          have E6 := hH.2.far (g' := w.heap.size + 1 + 1) (ec (hsh h d (n + 1))) (by omega)
          refine hK.out _ _ ⟨B6, E6⟩ (fun hH => ?_)
          clear hK K
          simp only [Act.put]
          refine wpAnyH_done (by kernel_rfl) ?_ _
          go_wp2_with fail
          exact ⟨⟨n + 1, _, HM2.out, rfl, i64_eq (by have := HM.out; omega), hid E6, hid A6, hid V6, hid B6⟩, by simp [intOf]; omega⟩
        refine AllReadyH.cons (by simp only [List.getElem?_toArray, List.getElem?_cons_succ, List.getElem?_cons_zero]; rfl) (fun K hK => ?_) ?_
        · go_simp
          refine (elemof s _ SL.out SY.out).mono ?_
          rintro e x6 ⟨rfl, hM⟩
          refine hK.out _ _ ⟨hH.1.trans (hM.mono hH.1.size), hH.2.below hM⟩ (fun hH => ?_)
          clear hK K
          replace V5 := V5.below hM
          replace A4 := A4.below hM
          replace PQ := PQ.below hM
          clear hM
          refine wpAnyH_ready (rs := [0]) (by kernel_rfl) (by simp) ?_
          refine AllReadyH.cons (by simp only [List.getElem?_toArray, List.getElem?_cons_zero]; rfl) (fun K hK => ?_) AllReadyH.nil
          obtain ⟨c0, -⟩ := V5.cell0
          obtain ⟨c1, -⟩ := V5.cell1
          go_simp
          refine hK.out _ _ hH (fun hH => ?_)
          clear hK K c0 c1
          refine wpAnyH_ready (rs := [7]) (by kernel_rfl) (by simp) ?_
          refine AllReadyH.cons (by simp only [List.getElem?_toArray, List.getElem?_cons_succ, List.getElem?_cons_zero]; rfl) (fun K hK => ?_) AllReadyH.nil
          go_simp
          refine (gplusE q (elt s) _ XG.out (elt_64 s SY.out)).mono ?_
          rintro e x7 ⟨rfl, hM⟩
          refine hK.out _ _ ⟨hH.1.trans (hM.mono hH.1.size), hH.2.below hM⟩ (fun hH => ?_)
          clear hK K
          replace V5 := V5.below hM
          replace A4 := A4.below hM
          replace PQ := PQ.below hM
          clear hM
          refine wpAnyH_ready (rs := [9]) (by kernel_rfl) (by simp) ?_
          refine AllReadyH.cons (by simp only [List.getElem?_toArray, List.getElem?_cons_succ, List.getElem?_cons_zero]; rfl) (fun K hK => ?_) AllReadyH.nil
          go_simp
          refine (gprod (ga q (elt s)) h _ (ga_64 XG.out (elt_64 s SY.out)) HG.out).mono ?_
          rintro e x9 ⟨rfl, hM⟩
          refine hK.out _ _ ⟨hH.1.trans (hM.mono hH.1.size), hH.2.below hM⟩ (fun hH => ?_)
          clear hK K
          replace V5 := V5.below hM
          replace A4 := A4.below hM
          replace PQ := PQ.below hM
          clear hM
          rw [XN.out]
          refine wpAnyH_ready (rs := [10]) (by kernel_rfl) (by simp) ?_
          refine AllReadyH.cons (by simp only [List.getElem?_toArray, List.getElem?_cons_succ, List.getElem?_cons_zero]; rfl) (fun K hK => ?_) AllReadyH.nil
          refine step_store_row (by rfl) _ _ _ (by rfl) (w.heap.size + 1 + 1) (ec (hsh h d (n + 1))) (by rfl) (by rfl) 106 _ V5 (ec_size _) rfl (ec_one _) ?_
          have V6 := V5.row (q := hsh h d (n + 1))
          have A6 := A4.rowFar (g' := w.heap.size + 1 + 1) (ec (hsh h d (n + 1))) (by omega)
          have B6 := below_row hH.1 (g := w.heap.size + 1 + 1) (by omega) (ec (hsh h d (n + 1)))
          have E6 := hH.2.far (g' := w.heap.size + 1 + 1) (ec (hsh h d (n + 1))) (by omega)
          refine hK.out _ _ ⟨B6, E6⟩ (fun hH => ?_)
          clear hK K
          simp only [Act.put]
          refine wpAnyH_done (by kernel_rfl) ?_ _
          go_wp2_with fail
          exact ⟨⟨n + 1, _, HM2.out, rfl, i64_eq (by have := HM.out; omega), hid E6, hid A6, hid V6, hid B6⟩, by simp [intOf]; omega⟩
        exact AllReadyH.nil
      exact AllReadyH.nil
    · have c1 : ¬ ((16 * n : Nat) : Int) < (d.length : Int) := by omega
      have m0 : (0 : Int) ≤ ((16 * n : Nat) : Int) := by omega
      have E := hid (show d.length / 16 = n by omega)
      have XG := hid (hsh_64 h HG.out d n)
      generalize 16 * n = m at *
      go_wp2_with (refine wpList_load_row rfl 106 _ rfl (w.heap.size + 1 + 1) rfl 106 (ec (hsh h d n)) _ _ H2.out Tryz.underlying106 rfl (ec_size _) ?_)
      refine (blkofel (hsh h d n) _ XG.out).mono ?_
      rintro e w1 ⟨rfl, B1⟩
      have K1 := hid (H1.out.below B1)
      have KB := hid (HB.out.trans (B1.mono HB.out.size))
      have Z := hid (blk_size (eb (hsh h d n)) (eb_len _))
      go_wp2_with (refine wpList_store_row rfl 107 _ _ rfl (w.heap.size + 1) (arr (eb (hsh h d n))) rfl rfl 107 _ K1.out Z.out (by rw [arr_size, arr_size, eb_len]; rfl) (arr_one _) ?_)
      exact bodyPost_ret (v := .agg (arr (eb (hsh h d n)))) (results_cell_row rfl _ _ (w.heap.size + 1) 107 _ _ _ rfl (K1.out.row (l' := eb (hsh h d n))) Tryz.underlying107 rfl Z.out) rfl ⟨by rw [E.out], below_row KB.out (by omega) _⟩
end Go.Proofs.YtckgjghpfjinfakGreat.W

namespace Go.Proofs.YtckgjghpfjinfakGreat.W
open Go.ChangeShapes Go.WideShapes Go.ChangeAt Go.RowKit
open Go.Proofs.YtckgjghpfjinfakGreat.M

set_option maxHeartbeats 1000000 in
set_option maxRecDepth 100000 in
theorem ihide (gc : Nat) (h : Nat × Nat) (n : List Nat) (vd : Value) (d : List Nat) (F : Nat → Nat) (w : World) (hC : Ar w gc 130 (cph F 176)) (hF : ∀ j, F j < 256) (hn : n.length = 12) (yn : Byt n) (hd : Rd w vd d) (yd : Byt d) (nd : d.length ≤ 1048576) :
    Calls Tryz.prog 64 #[.agg (sc gc h (jb n)), vd] w fun e w' => ∃ v, e = .returned v ∧ Own w' w.heap.size v (hid1 F n d) ∧ Below w.heap.size w w' := by
  obtain ⟨pd, capd, rfl, -, -, -⟩ := hd.parts
  have HC := hid hC
  have HF := hid hF
  have HD := hid hd
  have JL := hid (jb_len n hn)
  have JY := hid (jb_byt n yn)
  have ZB := hid (blk_size (jb n) JL.out)
  have S0 := hid (show Sv _ _ _ _ _ from heap_alloc_new w (.cells (sc gc h (jb n)) 109))
  have B0 := below_alloc1 w (.cells (sc gc h (jb n)) 109)
  have CL := hid hC.lt
  clear hC hF hd hn
  go_enter Tryz.func64, Tryz.ntmps64
  go_wp2_with fail
  generalize w.alloc (.cells (sc gc h (jb n)) 109) = W at *
  refine wp_region_held_drew (S := fun w' => Below w.heap.size w w' ∧ Sv w' w.heap.size gc h (jb n)) (by kernel_rfl) ⟨B0.drew, S0.out⟩ (fun hH => ?_)
  refine wpAnyH_take (i := 0) (v := .pointer (some ⟨w.heap.size, 0, none⟩)) (by simp only [List.getElem?_toArray, List.getElem?_cons_zero]; rfl) (by kernel_rfl) (by kernel_rfl) (by kernel_rfl) (by intro _ _ _ h; exact h) (Or.inl ⟨by rfl, fun w hS => by go_simp⟩) hH ?_
  simp only [Act.put, List.setIfInBounds_toArray, List.set_cons_zero, List.set_cons_succ]
  refine wpAnyH_take (i := 1) (v := .pointer (some ⟨gc, 0, none⟩)) (by simp only [List.getElem?_toArray, List.getElem?_cons_succ, List.getElem?_cons_zero]; rfl) (by kernel_rfl) (by kernel_rfl) (by kernel_rfl) (by intro _ _ _ h; exact h) (Or.inl ⟨by rfl, fun w hS => by have c := hS.2.c0; go_simp⟩) hH ?_
  simp only [Act.put, List.setIfInBounds_toArray, List.set_cons_zero, List.set_cons_succ]
  refine wpAnyH_take (i := 2) (v := .pointer (some ⟨w.heap.size, 3, none⟩)) (by simp only [List.getElem?_toArray, List.getElem?_cons_succ, List.getElem?_cons_zero]; rfl) (by kernel_rfl) (by kernel_rfl) (by kernel_rfl) (by intro _ _ _ h; exact h) (Or.inl ⟨by rfl, fun w hS => by go_simp⟩) hH ?_
  simp only [Act.put, List.setIfInBounds_toArray, List.set_cons_zero, List.set_cons_succ]
  refine wpAnyH_take (i := 3) (v := .agg (arr (jb n))) (by simp only [List.getElem?_toArray, List.getElem?_cons_succ, List.getElem?_cons_zero]; rfl) (by kernel_rfl) (by kernel_rfl) (by kernel_rfl) (by intro _ _ _ h; exact h) (yieldsIf_load_mid (by rfl) _ _ rfl w.heap.size 3 rfl ((jb n).map bv) _ (fun w hS => hS.2.range) Tryz.underlying107 rfl (by rw [List.length_map, ← arr_size]; exact ZB.out)) hH ?_
  simp only [Act.put, List.setIfInBounds_toArray, List.set_cons_zero, List.set_cons_succ]
  refine wpAnyH_take (i := 5) (v := .slice pd d.length capd) (by simp only [List.getElem?_toArray, List.getElem?_cons_succ, List.getElem?_cons_zero]; rfl) (by kernel_rfl) (by kernel_rfl) (by kernel_rfl) (by intro _ _ _ h; exact h) (Or.inl ⟨by rfl, fun w hS => by go_simp⟩) hH ?_
  simp only [Act.put, List.setIfInBounds_toArray, List.set_cons_zero, List.set_cons_succ]
  generalize W.drew = x at hH ⊢
  refine wpAnyH_ready (rs := [4]) (by kernel_rfl) (by simp) ?_
  refine AllReadyH.cons (by simp only [List.getElem?_toArray, List.getElem?_cons_succ, List.getElem?_cons_zero]; rfl) (fun K hK => ?_) AllReadyH.nil
  go_simp
  refine (counted (jb n) _ JL.out JY.out).mono ?_
  rintro e x4 ⟨rfl, hM⟩
  refine hK.out _ _ ⟨hH.1.trans (hM.mono hH.1.size), hH.2.below hM⟩ (fun hH => ?_)
  clear hK K hM
  refine wpAnyH_ready (rs := [6]) (by kernel_rfl) (by simp) ?_
  refine AllReadyH.cons (by simp only [List.getElem?_toArray, List.getElem?_cons_succ, List.getElem?_cons_zero]; rfl) (fun K hK => ?_) AllReadyH.nil
  go_simp
  refine (istream gc (cu (jb n)) _ d F _ (HC.out.keep hH.1 CL.out) HF.out (cu_len _ JL.out) (cu_byt _ JY.out) (HD.out.below hH.1) yd nd).mono ?_
  rintro e x6 ⟨rfl, O, hM⟩
  have O2 := hid (O.mono (base' := w.heap.size) hH.1.size)
  refine hK.out _ _ ⟨hH.1.trans (hM.mono hH.1.size), hH.2.below hM⟩ (fun hH => ?_)
  clear hK K hM O
  refine wpAnyH_ready (rs := [7]) (by kernel_rfl) (by simp) ?_
  refine AllReadyH.cons (by simp only [List.getElem?_toArray, List.getElem?_cons_succ, List.getElem?_cons_zero]; rfl) (fun K hK => ?_) AllReadyH.nil
  go_simp
  refine hK.out _ _ hH (fun hH => ?_)
  clear hK K
  refine wpAnyH_done (by kernel_rfl) ?_ _
  go_wp2
  go_ret
  exact ⟨_, rfl, O2.out, hH.1⟩

set_option maxHeartbeats 2000000 in
set_option maxRecDepth 100000 in
theorem itag (gc : Nat) (n : List Nat) (ve vc : Value) (e c : List Nat) (F : Nat → Nat) (w : World) (hC : Ar w gc 130 (cph F 176)) (hF : ∀ j, F j < 256) (hn : n.length = 12) (yn : Byt n) (he : Rd w ve e) (hc : Rd w vc c) (ye : Byt e) (yc : Byt c) (ne : e.length ≤ 101) (nc : c.length ≤ 700) :
    Calls Tryz.prog 65 #[.agg (sc gc (elt (enc F (zs 16))) (jb n)), ve, vc] w fun r w' => r = .returned (.agg (arr (tg F n e c))) ∧ Below w.heap.size w w' := by
  obtain ⟨p1, c1, rfl, -, -, -⟩ := he.parts
  obtain ⟨p2, c2, rfl, -, -, -⟩ := hc.parts
  have HC := hid hC
  have CL := hid hC.lt
  have HE := hid he
  have HH := hid hc
  have NE := hid ne
  have NC := hid nc
  have JL := hid (jb_len n hn)
  have JY := hid (jb_byt n yn)
  have TL := hid (tg_len F n e c hn)
  have LE := hid (whole_len e)
  have LC := hid (whole_len c)
  have WM := hid (whole_mod e)
  have s0 := heap_alloc_new w (.cells (sc gc (elt (enc F (zs 16))) (jb n)) 109)
  have a1 := heap_alloc_new (w.alloc (.cells (sc gc (elt (enc F (zs 16))) (jb n)) 109)) (.cells #[.int .u8 0, .int .u8 0, .int .u8 0, .int .u8 0, .int .u8 0, .int .u8 0, .int .u8 0, .int .u8 0, .int .u8 0, .int .u8 0, .int .u8 0, .int .u8 0, .int .u8 0, .int .u8 0, .int .u8 0, .int .u8 0] 107)
  simp only [World.size_alloc] at a1
  have S0 := hid (show Sv _ _ _ _ _ from var_alloc (.cells #[.int .u8 0, .int .u8 0, .int .u8 0, .int .u8 0, .int .u8 0, .int .u8 0, .int .u8 0, .int .u8 0, .int .u8 0, .int .u8 0, .int .u8 0, .int .u8 0, .int .u8 0, .int .u8 0, .int .u8 0, .int .u8 0] 107) s0)
  have A0 := hid (show Ar _ _ 107 (zs 16) from a1)
  have B0 := hid (below_alloc2 w (.cells (sc gc (elt (enc F (zs 16))) (jb n)) 109) (.cells #[.int .u8 0, .int .u8 0, .int .u8 0, .int .u8 0, .int .u8 0, .int .u8 0, .int .u8 0, .int .u8 0, .int .u8 0, .int .u8 0, .int .u8 0, .int .u8 0, .int .u8 0, .int .u8 0, .int .u8 0, .int .u8 0] 107))
  clear hC he hc hn ne nc s0 a1
  go_enter Tryz.func65, Tryz.ntmps65
  go_wp2_with fail
  generalize (w.alloc (.cells (sc gc (elt (enc F (zs 16))) (jb n)) 109)).alloc (.cells #[.int .u8 0, .int .u8 0, .int .u8 0, .int .u8 0, .int .u8 0, .int .u8 0, .int .u8 0, .int .u8 0, .int .u8 0, .int .u8 0, .int .u8 0, .int .u8 0, .int .u8 0, .int .u8 0, .int .u8 0, .int .u8 0] 107) = W at *
  have ZW := hid B0.out.size
  have WL := hid (var_lt A0.out)
  have SLt := hid (var_lt S0.out)
  refine (awhole _ _ [] e W.heap.size _ (Own.nil _ _) (HE.out.below B0.out) (Nat.le_refl _) (by simp) (by have := NE.out; omega) (by rfl)).mono ?_
  rintro r w1 ⟨v1, rfl, O1, hM⟩
  rw [List.nil_append] at O1
  replace O1 := hid O1
  have H1 := hid hM
  have B1 := hid (B0.out.trans (hM.mono ZW.out))
  clear hM
  go_wp2_with fail
  refine (awhole _ _ (whole e) c W.heap.size _ O1.out (HH.out.below B1.out) H1.out.size (by rw [LE.out]; have := NE.out; omega) (by have := NC.out; omega) WM.out).mono ?_
  rintro r w2 ⟨v2, rfl, O2, hM⟩
  replace O2 := hid O2
  have H2 := hid (H1.out.trans hM)
  have B2 := hid (B1.out.trans (hM.mono ZW.out))
  clear hM O1 H1 B1
  go_wp2_with fail
  refine (lenbits _ e.length _ _ (by have := NE.out; omega)).mono ?_
  rintro r w3 ⟨v3, rfl, O3, hM⟩
  have P3 := hid (O2.out.below hM)
  have R3 := hid O3.rd
  have H3 := hid (H2.out.trans (hM.mono H2.out.size))
  have B3 := hid (B2.out.trans (hM.mono B2.out.size))
  clear hM O2 H2 B2 O3
  go_wp2_with (at_builtin; refine list_app rfl _ _ rfl _ _ (whole e ++ whole c) (packL (8 * e.length) 8) W.heap.size rfl rfl P3.out R3.out (by rw [List.length_append, packL_len, LE.out, LC.out]; have := NE.out; have := NC.out; omega) (H3.out.size) ?_; intro v4 w4 O4 G4)
  have H4 := hid (H3.out.grown G4 H3.out.size (P3.out.row (Nat.le_refl _)))
  have B4 := hid (B3.out.grown G4 B3.out.size (P3.out.row ZW.out))
  replace O4 := hid O4
  clear G4 P3 R3 H3 B3
  refine (lenbits _ c.length _ _ (by have := NC.out; omega)).mono ?_
  rintro r w5 ⟨v5, rfl, O5, hM⟩
  have P5 := hid (O4.out.below hM)
  have R5 := hid O5.rd
  have H5 := hid (H4.out.trans (hM.mono H4.out.size))
  have B5 := hid (B4.out.trans (hM.mono B4.out.size))
  clear hM O4 H4 B4 O5
  have ZB := hid (blk_size (jb n) JL.out)
  have U1 := hid (fun (w6 : World) (q : Below W.heap.size W w6) => (S0.out.below q).c0)
  have U2 := hid (fun (w6 : World) (q : Below W.heap.size W w6) => (S0.out.below q).range)
  go_wp2_with (first | (at_builtin; refine list_app rfl _ _ rfl _ _ (whole e ++ whole c ++ packL (8 * e.length) 8) (packL (8 * c.length) 8) W.heap.size rfl rfl P5.out R5.out (by rw [List.length_append, List.length_append, packL_len, packL_len, LE.out, LC.out]; have := NE.out; have := NC.out; omega) (H5.out.size) ?_; intro v6 w6 O6 G6; have H6 := hid (H5.out.grown G6 H5.out.size (P5.out.row (Nat.le_refl _))); have B6 := hid (B5.out.grown G6 B5.out.size (P5.out.row ZW.out)); replace O6 := hid (show Own w6 W.heap.size v6 (thash e c) from O6); clear G6 P5 R5 H5 B5; have cc := U1.out w6 H6.out) | refine load_sub rfl 107 _ rfl w.heap.size 3 rfl (jb n) (U2.out _ H6.out) _ Tryz.underlying107 rfl ZB.out ?_)
  refine (encr (jb n) F gc _ JL.out JY.out hF (HC.out.keep B6.out CL.out)).mono ?_
  rintro r w7 ⟨rfl, hM⟩
  have O7 := hid (O6.out.below hM)
  have H7 := hid (H6.out.trans (hM.mono H6.out.size))
  have B7 := hid (B6.out.trans (hM.mono B6.out.size))
  clear hM O6 H6 B6 cc
  have EL := hid (show (enc F (jb n)).length = 16 from stt_len F _ JL.out 10)
  have EY := hid (show Byt (enc F (jb n)) from stt_byt F hF _ JY.out 10)
  have ZE := hid (blk_size (enc F (jb n)) EL.out)
  have X7 := hid (show Ar _ _ 107 (zs 16) from heap_alloc_new w7 (.cells #[.int .u8 0, .int .u8 0, .int .u8 0, .int .u8 0, .int .u8 0, .int .u8 0, .int .u8 0, .int .u8 0, .int .u8 0, .int .u8 0, .int .u8 0, .int .u8 0, .int .u8 0, .int .u8 0, .int .u8 0, .int .u8 0] 107))
  have X8 := hid (X7.out.row (l' := enc F (jb n)))
  have hN := below_row (below_alloc1 w7 (.cells #[.int .u8 0, .int .u8 0, .int .u8 0, .int .u8 0, .int .u8 0, .int .u8 0, .int .u8 0, .int .u8 0, .int .u8 0, .int .u8 0, .int .u8 0, .int .u8 0, .int .u8 0, .int .u8 0, .int .u8 0, .int .u8 0] 107)) (g := w7.heap.size) (Nat.le_refl _) (arr (enc F (jb n)))
  have O8 := hid (O7.out.below hN)
  have H8 := hid (H7.out.trans (hN.mono H7.out.size))
  have B8 := hid (B7.out.trans (hN.mono B7.out.size))
  have d1 := (S0.out.below H8.out).c1
  have d2 := (S0.out.below H8.out).c2
  have ZG := hid H7.out.size
  clear hN
  go_wp2_with (refine wpList_store_row rfl 107 _ _ rfl w7.heap.size (arr (enc F (jb n))) rfl rfl 107 _ X7.out ZE.out (by rw [arr_size, arr_size, zs_len, EL.out]) (arr_one _) ?_; generalize ((w7.alloc (.cells #[.int .u8 0, .int .u8 0, .int .u8 0, .int .u8 0, .int .u8 0, .int .u8 0, .int .u8 0, .int .u8 0, .int .u8 0, .int .u8 0, .int .u8 0, .int .u8 0, .int .u8 0, .int .u8 0, .int .u8 0, .int .u8 0] 107)).setRow w7.heap.size (arr (enc F (jb n)))) = Y at *)
  refine (hashof (elt (enc F (zs 16))) _ (thash e c) _ O8.out.rd (thash_byt e c ye yc) (elt_64 _ (stt_byt F hF _ (zs_byt 16) 10)) (by rw [thash_len, LE.out, LC.out]; have := NE.out; have := NC.out; omega) (thash_mod e c)).mono ?_
  rintro r w9 ⟨rfl, hM⟩
  have X9 := hid (X8.out.below hM)
  have H9 := hid (H8.out.trans (hM.mono H8.out.size))
  have B9 := hid (B8.out.trans (hM.mono B8.out.size))
  clear hM O7 O8 H7 B7 H8 B8 X7 X8 d1 d2
  generalize w7.heap.size = gt0 at *
  go_wp2_with fail
  refine (addm gt0 (enc F (jb n)) (hshB (enc F (zs 16)) (thash e c)) _ EL.out (hshB_len _ _) EY.out (hshB_byt _ _) X9.out).mono ?_
  rintro r w10 ⟨rfl, X10, G10⟩
  replace X10 := hid (show Ar w10 gt0 107 (tg F n e c) from X10)
  have A10 := hid (show Ar w10 (w.heap.size + 1) 107 (zs 16) from var_grown G10 (A0.out.below H9.out) (by intro q; have h1 := ZG.out; have h2 := WL.out; cases q; omega))
  have B10 := hid (B9.out.grown G10 B9.out.size (fun k q => by cases q; have h1 := ZG.out; have h2 := ZW.out; omega))
  have ZT := hid (blk_size (tg F n e c) TL.out)
  clear G10 X9 H9 B9
  go_wp2_with (first | refine wpList_load_row rfl 107 _ rfl gt0 rfl 107 (arr (tg F n e c)) _ _ X10.out Tryz.underlying107 rfl ZT.out ?_ | refine wpList_store_row rfl 107 _ _ rfl (w.heap.size + 1) (arr (tg F n e c)) rfl rfl 107 _ A10.out ZT.out (by rw [arr_size, arr_size, zs_len, TL.out]) (arr_one _) ?_)
  exact bodyPost_ret (v := .agg (arr (tg F n e c))) (results_cell_row rfl _ _ (w.heap.size + 1) 107 _ _ _ rfl (A10.out.row (l' := tg F n e c)) Tryz.underlying107 rfl ZT.out) rfl ⟨rfl, below_row B10.out (by omega) _⟩
end Go.Proofs.YtckgjghpfjinfakGreat.W

namespace Go.Proofs.YtckgjghpfjinfakGreat.W
open Go.ChangeShapes Go.WideShapes Go.ChangeAt Go.RowKit
open Go.Proofs.YtckgjghpfjinfakGreat.M

theorem iskey (a : Option Addr) (n cap : Nat) (w : World) :
    Calls Tryz.prog 60 #[.slice a n cap] w fun e w' => e = .returned (.bool ((n : Int) == 16)) ∧ w' = w := by
  go_enter Tryz.func60, Tryz.ntmps60
  go_wp2
  go_ret
  exact ⟨rfl, rfl⟩
theorem iskey_yes (a : Option Addr) (cap : Nat) (w : World) :
    Calls Tryz.prog 60 #[.slice a 16 cap] w fun e w' => e = .returned (.bool true) ∧ w' = w := iskey a 16 cap w
theorem iskey_no (a : Option Addr) (n cap : Nat) (hn : n ≠ 16) (w : World) :
    Calls Tryz.prog 60 #[.slice a n cap] w fun e w' => e = .returned (.bool false) ∧ w' = w := by
  have h := iskey a n cap w
  rw [show ((n : Int) == 16) = false by simp; omega] at h
  exact h
end Go.Proofs.YtckgjghpfjinfakGreat.W

namespace Go.Proofs.YtckgjghpfjinfakGreat.W
open Go.ChangeShapes Go.WideShapes Go.ChangeAt Go.RowKit
open Go.Proofs.YtckgjghpfjinfakGreat.M

set_option maxRecDepth 100000 in
theorem sfits (p1 p2 p3 : Option Addr) (c1 c2 c3 : Nat) (k n e : List Nat) (w : World) :
    Calls Tryz.prog 62 #[.slice p1 k.length c1, .slice p2 n.length c2, .slice p3 e.length c3] w fun r w' => r = .returned (.bool (askd k n e)) ∧ Below w.heap.size w w' := by
  by_cases h1 : k.length = 16
  · by_cases h2 : n.length = 12
    · have E := hid (show inB (e.length : Int) 0 100 = askd k n e by
        unfold inB askd
        by_cases h3 : e.length ≤ 100
        · rw [decide_eq_true (by omega), decide_eq_true ⟨h1, h2, h3⟩]
        · rw [decide_eq_false (by omega), decide_eq_false (fun h => h3 h.2.2)])
      have d2 : ((n.length : Int) == 12) = true := by rw [h2]; rfl
      rw [h1]
      clear h1 h2
      go_enter Tryz.func62, Tryz.ntmps62
      go_wp2_with fail
      refine (iskey_yes _ _ _).mono ?_
      rintro r W ⟨rfl, rfl⟩
      go_wp2_with fail
      refine (within1 (e.length : Int) 0 100 W.heap.size _ (heap_alloc_new W _)).mono ?_
      rintro r w3 ⟨rfl, hM⟩
      rw [E.out]
      replace hM := hid ((below_alloc1 W (.cells #[.int .i64 (e.length : Int), .int .i64 0, .int .i64 100] 89)).trans (hM.mono (by simp)))
      go_wp2
      go_ret
      exact ⟨rfl, hM.out⟩
    · have E := hid (show askd k n e = false by unfold askd; rw [decide_eq_false (fun h => h2 h.2.1)])
      have d2 : ((n.length : Int) == 12) = false := by rw [beq_eq_false_iff_ne]; omega
      rw [h1]
      clear h1 h2
      go_enter Tryz.func62, Tryz.ntmps62
      go_wp2_with fail
      refine (iskey_yes _ _ _).mono ?_
      rintro r W ⟨rfl, rfl⟩
      go_wp2
      go_ret
      exact ⟨ret_b E.out.symm, Below.refl _ _⟩
  · have E := hid (show askd k n e = false by unfold askd; rw [decide_eq_false (fun h => h1 h.1)])
    have H1 := hid h1
    clear h1
    go_enter Tryz.func62, Tryz.ntmps62
    go_wp2_with fail
    refine (iskey_no _ _ _ H1.out _).mono ?_
    rintro r W ⟨rfl, rfl⟩
    go_wp2
    go_ret
    exact ⟨ret_b E.out.symm, Below.refl _ _⟩
end Go.Proofs.YtckgjghpfjinfakGreat.W

namespace Go.Proofs.YtckgjghpfjinfakGreat.W
open Go.ChangeShapes Go.WideShapes Go.ChangeAt Go.RowKit
open Go.Proofs.YtckgjghpfjinfakGreat.M

set_option maxRecDepth 100000 in
theorem isl_no (vk vn ve vp : Value) (k n e p : List Nat) (w : World) (hk : Rd w vk k) (hn : Rd w vn n) (he : Rd w ve e) (hp : Rd w vp p) (h : slOk k n e p = false) :
    Calls Tryz.prog 50 #[vk, vn, ve, vp] w fun r w' => r = .returned (.agg #[.int .i64 2, .slice none 0 0]) ∧ Below w.heap.size w w' := by
  obtain ⟨p1, c1, rfl, -, -, -⟩ := hk.parts
  obtain ⟨p2, c2, rfl, -, -, -⟩ := hn.parts
  obtain ⟨p3, c3, rfl, -, -, -⟩ := he.parts
  obtain ⟨p4, c4, rfl, -, -, -⟩ := hp.parts
  clear hk hn he hp
  have V0 := hid (heap_alloc_new w (.cells #[.int .i64 0, .slice none 0 0] 31))
  have B0 := hid (below_alloc1 w (.cells #[.int .i64 0, .slice none 0 0] 31))
  by_cases ha : askd k n e = true
  · have A := hid ha
    have WI := hid (show inB (p.length : Int) 0 600 = false by
      simp only [slOk, ha, Bool.true_and, decide_eq_false_iff_not] at h
      unfold inB
      rw [decide_eq_false (by omega)])
    clear ha h
    go_enter Tryz.func50, Tryz.ntmps50
    go_wp2_with fail
    refine (sfits _ _ _ _ _ _ k n e _).mono ?_
    rintro r W ⟨rfl, hM⟩
    rw [A.out]
    replace V0 := hid (var_below hM V0.out)
    replace B0 := hid (B0.out.trans (hM.mono B0.out.size))
    clear hM
    go_wp2_with fail
    refine (within1 (p.length : Int) 0 600 W.heap.size _ (heap_alloc_new W _)).mono ?_
    rintro r w3 ⟨rfl, hM⟩
    rw [WI.out]
    replace hM := (below_alloc1 W (.cells #[.int .i64 (p.length : Int), .int .i64 0, .int .i64 600] 89)).trans (hM.mono (by simp))
    replace V0 := hid (var_below hM V0.out)
    replace B0 := hid (B0.out.trans (hM.mono B0.out.size))
    clear hM
    obtain ⟨f1, f2, f3, f4⟩ := var2_facts V0.out
    have hset := hid (var2_set (x' := .int .i64 2) (y' := .slice none 0 0) V0.out)
    have hbel := hid (below_set2 (x := .int .i64 2) (y := .slice none 0 0) B0.out (Nat.le_refl _))
    go_wp2
    exact bodyPost_ret (v := .agg #[.int .i64 2, .slice none 0 0]) (results_cell_row rfl _ _ w.heap.size 31 _ _ _ rfl hset.out Tryz.underlying31 rfl (by kernel_rfl)) rfl ⟨rfl, hbel.out⟩
  · have A := hid (show askd k n e = false by simpa using ha)
    clear ha h
    go_enter Tryz.func50, Tryz.ntmps50
    go_wp2_with fail
    refine (sfits _ _ _ _ _ _ k n e _).mono ?_
    rintro r W ⟨rfl, hM⟩
    rw [A.out]
    replace V0 := hid (var_below hM V0.out)
    replace B0 := hid (B0.out.trans (hM.mono B0.out.size))
    clear hM
    obtain ⟨f1, f2, f3, f4⟩ := var2_facts V0.out
    have hset := hid (var2_set (x' := .int .i64 2) (y' := .slice none 0 0) V0.out)
    have hbel := hid (below_set2 (x := .int .i64 2) (y := .slice none 0 0) B0.out (Nat.le_refl _))
    go_wp2
    exact bodyPost_ret (v := .agg #[.int .i64 2, .slice none 0 0]) (results_cell_row rfl _ _ w.heap.size 31 _ _ _ rfl hset.out Tryz.underlying31 rfl (by kernel_rfl)) rfl ⟨rfl, hbel.out⟩

set_option maxHeartbeats 2000000 in
set_option maxRecDepth 100000 in
theorem isl_ok (vk vn ve vp : Value) (k n e p : List Nat) (w : World) (hk : Rd w vk k) (hn : Rd w vn n) (he : Rd w ve e) (hp : Rd w vp p) (yk : Byt k) (yn : Byt n) (ye : Byt e) (yp : Byt p) (h : slOk k n e p = true) :
    Calls Tryz.prog 50 #[vk, vn, ve, vp] w fun r w' => ∃ v, r = .returned (.agg #[.int .i64 0, v]) ∧ Owx w' w.heap.size v (sld (kf k) n e p) ∧ Below w.heap.size w w' := by
  have Q := hid (slOk_parts h)
  have A := hid (show askd k n e = true by simp only [slOk, Bool.and_eq_true] at h; exact h.1)
  obtain ⟨b1, o1, c1, e1, -, -⟩ := hk.spot (by have := Q.out.1.1; omega)
  obtain ⟨b2, o2, c2, e2, -, -⟩ := hn.spot (by have := Q.out.1.2.1; omega)
  obtain ⟨p3, c3, rfl, -, -, -⟩ := he.parts
  obtain ⟨p4, c4, rfl, -, -, -⟩ := hp.parts
  subst e1 e2
  have WI := hid (show inB (p.length : Int) 0 600 = true by unfold inB; rw [decide_eq_true (by have := Q.out.2; omega)])
  have HK := hid hk
  have HN := hid hn
  have HE := hid he
  have HP := hid hp
  have V0 := hid (heap_alloc_new w (.cells #[.int .i64 0, .slice none 0 0] 31))
  have B0 := hid (below_alloc1 w (.cells #[.int .i64 0, .slice none 0 0] 31))
  have ZK := hid (key_size k Q.out.1.1)
  have ZN := hid (show (Tryz.prog.info? 111).map (·.size) = some (arr n).size by rw [arr_size, Q.out.1.2.1]; kernel_rfl)
  have RK := hid (rd_range hk)
  have RN := hid (rd_range hn)
  have JL := hid (jb_len n Q.out.1.2.1)
  have HF := hid (kf_lt k yk)
  clear hk hn he hp h
  go_enter Tryz.func50, Tryz.ntmps50
  go_wp2_with fail
  refine (sfits _ _ _ _ _ _ k n e _).mono ?_
  rintro r W ⟨rfl, hM⟩
  rw [A.out]
  replace V0 := hid (var_below hM V0.out)
  replace B0 := hid (B0.out.trans (hM.mono B0.out.size))
  clear hM
  go_wp2_with fail
  refine (within1 (p.length : Int) 0 600 W.heap.size _ (heap_alloc_new W _)).mono ?_
  rintro r w3 ⟨rfl, hM⟩
  rw [WI.out]
  replace hM := (below_alloc1 W (.cells #[.int .i64 (p.length : Int), .int .i64 0, .int .i64 600] 89)).trans (hM.mono (by simp))
  replace V0 := hid (var_below hM V0.out)
  replace B0 := hid (B0.out.trans (hM.mono B0.out.size))
  clear hM
  have P1 := arr_at 61 5 16 Tryz.underlying61 (some ⟨b1, o1, none⟩) k.length c1 (by rw [Q.out.1.1]; omega)
  have P2 := arr_at 111 5 12 Tryz.underlying111 (some ⟨b2, o2, none⟩) n.length c2 (by rw [Q.out.1.2.1]; omega)
  go_wp2_with fail
  have V1 : w3.drew.heap[w.heap.size]? = some (.cells #[.int .i64 0, .slice none 0 0] 31) := V0.out
  refine wp_region_held_drew (S := fun w' => Below w.heap.size w w') (by kernel_rfl) B0.out.drew (fun hH => ?_)
  refine wpAnyH_take (i := 0) (v := .slice (some ⟨b1, o1, none⟩) k.length c1) (by simp only [List.getElem?_toArray, List.getElem?_cons_zero]; rfl) (by kernel_rfl) (by kernel_rfl) (by kernel_rfl) (by intro _ _ _ h; exact h) (Or.inl ⟨by rfl, fun w hS => by go_simp⟩) hH ?_
  simp only [Act.put, List.setIfInBounds_toArray, List.set_cons_zero, List.set_cons_succ]
  refine wpAnyH_take (i := 1) (v := .pointer (some ⟨b1, o1, none⟩)) (by simp only [List.getElem?_toArray, List.getElem?_cons_succ, List.getElem?_cons_zero]; rfl) (by kernel_rfl) (by kernel_rfl) (by kernel_rfl) (by intro _ _ _ h; exact h) (Or.inl ⟨by rfl, fun w hS => by go_simp⟩) hH ?_
  simp only [Act.put, List.setIfInBounds_toArray, List.set_cons_zero, List.set_cons_succ]
  refine wpAnyH_take (i := 2) (v := .agg (arr k)) (by simp only [List.getElem?_toArray, List.getElem?_cons_succ, List.getElem?_cons_zero]; rfl) (by kernel_rfl) (by kernel_rfl) (by kernel_rfl) (by intro _ _ _ h; exact h) (yieldsIf_load_mid (by rfl) _ _ rfl b1 o1 rfl (k.map bv) _ (fun w hS => rangeAt.below RK.out hS) Tryz.underlying61 rfl (by rw [List.length_map, ← arr_size]; exact ZK.out)) hH ?_
  simp only [Act.put, List.setIfInBounds_toArray, List.set_cons_zero, List.set_cons_succ]
  refine wpAnyH_take (i := 3) (v := .slice (some ⟨b2, o2, none⟩) n.length c2) (by simp only [List.getElem?_toArray, List.getElem?_cons_succ, List.getElem?_cons_zero]; rfl) (by kernel_rfl) (by kernel_rfl) (by kernel_rfl) (by intro _ _ _ h; exact h) (Or.inl ⟨by rfl, fun w hS => by go_simp⟩) hH ?_
  simp only [Act.put, List.setIfInBounds_toArray, List.set_cons_zero, List.set_cons_succ]
  refine wpAnyH_take (i := 4) (v := .pointer (some ⟨b2, o2, none⟩)) (by simp only [List.getElem?_toArray, List.getElem?_cons_succ, List.getElem?_cons_zero]; rfl) (by kernel_rfl) (by kernel_rfl) (by kernel_rfl) (by intro _ _ _ h; exact h) (Or.inl ⟨by rfl, fun w hS => by go_simp⟩) hH ?_
  simp only [Act.put, List.setIfInBounds_toArray, List.set_cons_zero, List.set_cons_succ]
  refine wpAnyH_take (i := 5) (v := .agg (arr n)) (by simp only [List.getElem?_toArray, List.getElem?_cons_succ, List.getElem?_cons_zero]; rfl) (by kernel_rfl) (by kernel_rfl) (by kernel_rfl) (by intro _ _ _ h; exact h) (yieldsIf_load_mid (by rfl) _ _ rfl b2 o2 rfl (n.map bv) _ (fun w hS => rangeAt.below RN.out hS) Tryz.underlying111 rfl (by rw [List.length_map, ← arr_size]; exact ZN.out)) hH ?_
  simp only [Act.put, List.setIfInBounds_toArray, List.set_cons_zero, List.set_cons_succ]
  generalize w3.drew = x at hH V1 ⊢
  refine wpAnyH_ready (rs := [6, 7]) (by kernel_rfl) (by simp) ?_
  refine AllReadyH.cons (by simp only [List.getElem?_toArray, List.getElem?_cons_succ, List.getElem?_cons_zero]; rfl) (fun K hK => ?_) ?_
  · go_simp
    refine (sealerof k n _ Q.out.1.1 Q.out.1.2.1 yk).mono ?_
    rintro r x6 ⟨g, rfl, C, hg, hM⟩
    refine hK.out _ _ (hH.trans (hM.mono hH.size)) (fun hH => ?_)
    clear hK K
    replace V1 := var_below hM V1
    have hg2 := hg
    clear hM
    have hcl := C.lt
    refine wpAnyH_ready (rs := [7]) (by kernel_rfl) (by simp) ?_
    refine AllReadyH.cons (by simp only [List.getElem?_toArray, List.getElem?_cons_succ, List.getElem?_cons_zero]; rfl) (fun K hK => ?_) AllReadyH.nil
    have F9 := heap_alloc_new x6 (.cells #[.pointer none, .int .u64 0, .int .u64 0, .int .u8 0, .int .u8 0, .int .u8 0, .int .u8 0, .int .u8 0, .int .u8 0, .int .u8 0, .int .u8 0, .int .u8 0, .int .u8 0, .int .u8 0, .int .u8 0, .int .u8 0, .int .u8 0, .int .u8 0, .int .u8 0] 109)
    have hs9 := var_lt V1
    have hz := hH.size
    replace V1 := var_alloc (.cells #[.pointer none, .int .u64 0, .int .u64 0, .int .u8 0, .int .u8 0, .int .u8 0, .int .u8 0, .int .u8 0, .int .u8 0, .int .u8 0, .int .u8 0, .int .u8 0, .int .u8 0, .int .u8 0, .int .u8 0, .int .u8 0, .int .u8 0, .int .u8 0, .int .u8 0] 109) V1
    replace C := C.alloc (.cells #[.pointer none, .int .u64 0, .int .u64 0, .int .u8 0, .int .u8 0, .int .u8 0, .int .u8 0, .int .u8 0, .int .u8 0, .int .u8 0, .int .u8 0, .int .u8 0, .int .u8 0, .int .u8 0, .int .u8 0, .int .u8 0, .int .u8 0, .int .u8 0, .int .u8 0] 109)
    go_simp
    refine hK.out _ _ (hH.alloc hH.size _) (fun hH => ?_)
    clear hK K
    have hne : g ≠ x6.heap.size := by omega
    refine wpAnyH_ready (rs := [8]) (by kernel_rfl) (by simp) ?_
    refine AllReadyH.cons (by simp only [List.getElem?_toArray, List.getElem?_cons_succ, List.getElem?_cons_zero]; rfl) (fun K hK => ?_) AllReadyH.nil
    refine step_store_row (by rfl) _ _ _ (by rfl) (x6.heap.size) (sc g (elt (enc (kf k) (zs 16))) (jb n)) (by rfl) (by rfl) 109 _ F9 (sc_info _ _ _ JL.out) (zsc_old _ _ _ JL.out) (sc_one _ _ _) ?_
    have g9l := hid (show w.heap.size < x6.heap.size by have := hs9; omega)
    have BY := hid (below_row hH (g := x6.heap.size) (by omega) (sc g (elt (enc (kf k) (zs 16))) (jb n)))
    refine hK.out _ _ BY.out (fun _ => ?_)
    clear hK K
    simp only [Act.put]
    have SY := hid (show Sv _ _ _ _ _ from setRow_heap _ (x6.heap.size) _ (sc g (elt (enc (kf k) (zs 16))) (jb n)) _ _ F9)
    have CY := hid (C.rowFar (g' := x6.heap.size) (sc g (elt (enc (kf k) (zs 16))) (jb n)) (by omega))
    have VY := hid ((setRow_other (x6.alloc (.cells #[.pointer none, .int .u64 0, .int .u64 0, .int .u8 0, .int .u8 0, .int .u8 0, .int .u8 0, .int .u8 0, .int .u8 0, .int .u8 0, .int .u8 0, .int .u8 0, .int .u8 0, .int .u8 0, .int .u8 0, .int .u8 0, .int .u8 0, .int .u8 0, .int .u8 0] 109)) (x6.heap.size) w.heap.size (sc g (elt (enc (kf k) (zs 16))) (jb n)) (by omega)).trans V1)
    generalize hg9 : x6.heap.size = g9 at *
    generalize (x6.alloc (.cells #[.pointer none, .int .u64 0, .int .u64 0, .int .u8 0, .int .u8 0, .int .u8 0, .int .u8 0, .int .u8 0, .int .u8 0, .int .u8 0, .int .u8 0, .int .u8 0, .int .u8 0, .int .u8 0, .int .u8 0, .int .u8 0, .int .u8 0, .int .u8 0, .int .u8 0] 109)).setRow g9 (sc g (elt (enc (kf k) (zs 16))) (jb n)) = y at *
    clear F9 V1 C hH hs9 hg9
    refine wpAnyH_done (by kernel_rfl) ?_ _
    go_wp2_with (refine wpList_load_row rfl 109 _ rfl g9 rfl 109 (sc g (elt (enc (kf k) (zs 16))) (jb n)) _ _ SY.out Tryz.underlying109 rfl (sc_info _ _ _ JL.out) ?_)
    refine (ihide g _ n _ p (kf k) _ CY.out HF.out Q.out.1.2.1 yn (HP.out.below BY.out) yp (by have := Q.out.2; omega)).mono ?_
    rintro r y1 ⟨v1, rfl, O1, hM⟩
    have ZY := hid (show w.heap.size < y.heap.size from var_lt VY.out)
    have VZ := hid (var_below hM VY.out)
    have SZ := hid (SY.out.below hM)
    have CZ := hid (CY.out.below hM)
    have BZ := hid (BY.out.trans (hM.mono BY.out.size))
    replace O1 := hid O1
    have Z1 := hid hM.size
    clear hM VY SY CY BY
    have HL := hid (show (hid1 (kf k) n p).length = p.length from strm_len _ _ _)
    go_wp2_with (refine wpList_load_row rfl 109 _ rfl g9 rfl 109 (sc g (elt (enc (kf k) (zs 16))) (jb n)) _ _ SZ.out Tryz.underlying109 rfl (sc_info _ _ _ JL.out) ?_)
    refine (itag g n _ _ e (hid1 (kf k) n p) (kf k) _ CZ.out HF.out Q.out.1.2.1 yn (HE.out.below BZ.out) O1.out.rd ye (strm_byt _ HF.out _ _ (cu_byt _ (jb_byt n yn)) yp) (by have := Q.out.1.2.2; omega) (by rw [HL.out]; have := Q.out.2; omega)).mono ?_
    rintro r y2 ⟨rfl, hM⟩
    have TL := hid (tg_len (kf k) n e (hid1 (kf k) n p) Q.out.1.2.1)
    have ZT := hid (blk_size (tg (kf k) n e (hid1 (kf k) n p)) TL.out)
    have T7 := hid (show Ar _ _ 107 (zs 16) from heap_alloc_new y2 (.cells #[.int .u8 0, .int .u8 0, .int .u8 0, .int .u8 0, .int .u8 0, .int .u8 0, .int .u8 0, .int .u8 0, .int .u8 0, .int .u8 0, .int .u8 0, .int .u8 0, .int .u8 0, .int .u8 0, .int .u8 0, .int .u8 0] 107))
    have T8 := hid (T7.out.row (l' := tg (kf k) n e (hid1 (kf k) n p)))
    have hN := below_row (below_alloc1 y2 (.cells #[.int .u8 0, .int .u8 0, .int .u8 0, .int .u8 0, .int .u8 0, .int .u8 0, .int .u8 0, .int .u8 0, .int .u8 0, .int .u8 0, .int .u8 0, .int .u8 0, .int .u8 0, .int .u8 0, .int .u8 0, .int .u8 0] 107)) (g := y2.heap.size) (Nat.le_refl _) (arr (tg (kf k) n e (hid1 (kf k) n p)))
    have O3 := hid ((O1.out.below hM).below hN)
    have V3 := hid (var_below hN (var_below hM VZ.out))
    have B3 := hid ((BZ.out.trans (hM.mono BZ.out.size)).trans (hN.mono (Nat.le_trans BZ.out.size hM.size)))
    have Z3 := hid (Nat.le_trans Z1.out (Nat.le_trans hM.size hN.size))
    clear hM hN VZ SZ CZ BZ O1
    have HT := hid (show sld (kf k) n e p = hid1 (kf k) n p ++ tg (kf k) n e (hid1 (kf k) n p) from rfl)
    generalize tg (kf k) n e (hid1 (kf k) n p) = tag at *
    have CB := cut_blk y2.heap.size
    have R3 := hid ((Owx.ofAr (base := 0) (n := 16) T8.out TL.out (Nat.zero_le _) (by unfold maxLen; omega)).rd)
    go_wp2_with (first | (refine wpList_store_row rfl 107 _ _ rfl y2.heap.size (arr tag) rfl rfl 107 _ T7.out ZT.out (by rw [arr_size, arr_size, zs_len, TL.out]) (arr_one _) ?_; generalize ((y2.alloc (.cells #[.int .u8 0, .int .u8 0, .int .u8 0, .int .u8 0, .int .u8 0, .int .u8 0, .int .u8 0, .int .u8 0, .int .u8 0, .int .u8 0, .int .u8 0, .int .u8 0, .int .u8 0, .int .u8 0, .int .u8 0, .int .u8 0] 107)).setRow y2.heap.size (arr tag)) = Y at *) | (at_builtin; refine list_app rfl _ _ rfl _ _ (hid1 (kf k) n p) tag y.heap.size rfl rfl O3.out R3.out (by rw [HL.out, TL.out]; have := Q.out.2; omega) Z3.out ?_; intro v4 y4 O4 G4; have V4 := var_grown G4 V3.out (O3.out.ne ZY.out); have B4 := B3.out.grown G4 B3.out.size (O3.out.row (Nat.le_of_lt ZY.out)); obtain ⟨f1, f2, f3, f4⟩ := var2_facts V4; obtain ⟨q4, d4, e4, -, -, -⟩ := O4.rd.parts; generalize (hid1 (kf k) n p ++ tag).length = m4 at e4; subst e4; have hset := hid (var2_set (x' := .int .i64 0) (y' := .slice q4 m4 d4) V4); have hbel := hid (below_set2 (x := .int .i64 0) (y := .slice q4 m4 d4) B4 (Nat.le_refl _)); have hown := hid ((O4.set2 (g := w.heap.size) (x := .int .i64 0) (y := .slice q4 m4 d4) ZY.out).mono (base' := w.heap.size) (Nat.le_of_lt ZY.out)).x; clear V4 B4 O4 G4))
    exact bodyPost_ret (v := .agg #[.int .i64 0, .slice q4 m4 d4]) (results_cell_row rfl _ _ w.heap.size 31 _ _ _ rfl hset.out Tryz.underlying31 rfl (by kernel_rfl)) rfl ⟨_, rfl, by rw [HT.out]; exact hown.out, hbel.out⟩
  refine AllReadyH.cons (by simp only [List.getElem?_toArray, List.getElem?_cons_succ, List.getElem?_cons_zero]; rfl) (fun K hK => ?_) ?_
  · have F9 := heap_alloc_new x (.cells #[.pointer none, .int .u64 0, .int .u64 0, .int .u8 0, .int .u8 0, .int .u8 0, .int .u8 0, .int .u8 0, .int .u8 0, .int .u8 0, .int .u8 0, .int .u8 0, .int .u8 0, .int .u8 0, .int .u8 0, .int .u8 0, .int .u8 0, .int .u8 0, .int .u8 0] 109)
    have hs9 := var_lt V1
    have hz := hH.size
    replace V1 := var_alloc (.cells #[.pointer none, .int .u64 0, .int .u64 0, .int .u8 0, .int .u8 0, .int .u8 0, .int .u8 0, .int .u8 0, .int .u8 0, .int .u8 0, .int .u8 0, .int .u8 0, .int .u8 0, .int .u8 0, .int .u8 0, .int .u8 0, .int .u8 0, .int .u8 0, .int .u8 0] 109) V1
    go_simp
    refine hK.out _ _ (hH.alloc hH.size _) (fun hH => ?_)
    clear hK K
    have hsx : (x.alloc (.cells #[.pointer none, .int .u64 0, .int .u64 0, .int .u8 0, .int .u8 0, .int .u8 0, .int .u8 0, .int .u8 0, .int .u8 0, .int .u8 0, .int .u8 0, .int .u8 0, .int .u8 0, .int .u8 0, .int .u8 0, .int .u8 0, .int .u8 0, .int .u8 0, .int .u8 0] 109)).heap.size = x.heap.size + 1 := by simp
    refine wpAnyH_ready (rs := [6]) (by kernel_rfl) (by simp) ?_
    refine AllReadyH.cons (by simp only [List.getElem?_toArray, List.getElem?_cons_succ, List.getElem?_cons_zero]; rfl) (fun K hK => ?_) AllReadyH.nil
    go_simp
    refine (sealerof k n _ Q.out.1.1 Q.out.1.2.1 yk).mono ?_
    rintro r x6 ⟨g, rfl, C, hg, hM⟩
    refine hK.out _ _ (hH.trans (hM.mono hH.size)) (fun hH => ?_)
    clear hK K
    replace V1 := var_below hM V1
    replace F9 := var_below hM F9
    clear hM
    have hne : g ≠ x.heap.size := by omega
    refine wpAnyH_ready (rs := [8]) (by kernel_rfl) (by simp) ?_
    refine AllReadyH.cons (by simp only [List.getElem?_toArray, List.getElem?_cons_succ, List.getElem?_cons_zero]; rfl) (fun K hK => ?_) AllReadyH.nil
    refine step_store_row (by rfl) _ _ _ (by rfl) (x.heap.size) (sc g (elt (enc (kf k) (zs 16))) (jb n)) (by rfl) (by rfl) 109 _ F9 (sc_info _ _ _ JL.out) (zsc_old _ _ _ JL.out) (sc_one _ _ _) ?_
    have g9l := hid (show w.heap.size < x.heap.size by have := hs9; omega)
    have BY := hid (below_row hH (g := x.heap.size) (by omega) (sc g (elt (enc (kf k) (zs 16))) (jb n)))
    refine hK.out _ _ BY.out (fun _ => ?_)
    clear hK K
    simp only [Act.put]
    have SY := hid (show Sv _ _ _ _ _ from setRow_heap _ (x.heap.size) _ (sc g (elt (enc (kf k) (zs 16))) (jb n)) _ _ F9)
    have CY := hid (C.rowFar (g' := x.heap.size) (sc g (elt (enc (kf k) (zs 16))) (jb n)) (by omega))
    have VY := hid ((setRow_other x6 (x.heap.size) w.heap.size (sc g (elt (enc (kf k) (zs 16))) (jb n)) (by omega)).trans V1)
    generalize hg9 : x.heap.size = g9 at *
    generalize x6.setRow g9 (sc g (elt (enc (kf k) (zs 16))) (jb n)) = y at *
    clear F9 V1 C hH hs9 hg9
    refine wpAnyH_done (by kernel_rfl) ?_ _
    go_wp2_with (refine wpList_load_row rfl 109 _ rfl g9 rfl 109 (sc g (elt (enc (kf k) (zs 16))) (jb n)) _ _ SY.out Tryz.underlying109 rfl (sc_info _ _ _ JL.out) ?_)
    refine (ihide g _ n _ p (kf k) _ CY.out HF.out Q.out.1.2.1 yn (HP.out.below BY.out) yp (by have := Q.out.2; omega)).mono ?_
    rintro r y1 ⟨v1, rfl, O1, hM⟩
    have ZY := hid (show w.heap.size < y.heap.size from var_lt VY.out)
    have VZ := hid (var_below hM VY.out)
    have SZ := hid (SY.out.below hM)
    have CZ := hid (CY.out.below hM)
    have BZ := hid (BY.out.trans (hM.mono BY.out.size))
    replace O1 := hid O1
    have Z1 := hid hM.size
    clear hM VY SY CY BY
    have HL := hid (show (hid1 (kf k) n p).length = p.length from strm_len _ _ _)
    go_wp2_with (refine wpList_load_row rfl 109 _ rfl g9 rfl 109 (sc g (elt (enc (kf k) (zs 16))) (jb n)) _ _ SZ.out Tryz.underlying109 rfl (sc_info _ _ _ JL.out) ?_)
    refine (itag g n _ _ e (hid1 (kf k) n p) (kf k) _ CZ.out HF.out Q.out.1.2.1 yn (HE.out.below BZ.out) O1.out.rd ye (strm_byt _ HF.out _ _ (cu_byt _ (jb_byt n yn)) yp) (by have := Q.out.1.2.2; omega) (by rw [HL.out]; have := Q.out.2; omega)).mono ?_
    rintro r y2 ⟨rfl, hM⟩
    have TL := hid (tg_len (kf k) n e (hid1 (kf k) n p) Q.out.1.2.1)
    have ZT := hid (blk_size (tg (kf k) n e (hid1 (kf k) n p)) TL.out)
    have T7 := hid (show Ar _ _ 107 (zs 16) from heap_alloc_new y2 (.cells #[.int .u8 0, .int .u8 0, .int .u8 0, .int .u8 0, .int .u8 0, .int .u8 0, .int .u8 0, .int .u8 0, .int .u8 0, .int .u8 0, .int .u8 0, .int .u8 0, .int .u8 0, .int .u8 0, .int .u8 0, .int .u8 0] 107))
    have T8 := hid (T7.out.row (l' := tg (kf k) n e (hid1 (kf k) n p)))
    have hN := below_row (below_alloc1 y2 (.cells #[.int .u8 0, .int .u8 0, .int .u8 0, .int .u8 0, .int .u8 0, .int .u8 0, .int .u8 0, .int .u8 0, .int .u8 0, .int .u8 0, .int .u8 0, .int .u8 0, .int .u8 0, .int .u8 0, .int .u8 0, .int .u8 0] 107)) (g := y2.heap.size) (Nat.le_refl _) (arr (tg (kf k) n e (hid1 (kf k) n p)))
    have O3 := hid ((O1.out.below hM).below hN)
    have V3 := hid (var_below hN (var_below hM VZ.out))
    have B3 := hid ((BZ.out.trans (hM.mono BZ.out.size)).trans (hN.mono (Nat.le_trans BZ.out.size hM.size)))
    have Z3 := hid (Nat.le_trans Z1.out (Nat.le_trans hM.size hN.size))
    clear hM hN VZ SZ CZ BZ O1
    have HT := hid (show sld (kf k) n e p = hid1 (kf k) n p ++ tg (kf k) n e (hid1 (kf k) n p) from rfl)
    generalize tg (kf k) n e (hid1 (kf k) n p) = tag at *
    have CB := cut_blk y2.heap.size
    have R3 := hid ((Owx.ofAr (base := 0) (n := 16) T8.out TL.out (Nat.zero_le _) (by unfold maxLen; omega)).rd)
    go_wp2_with (first | (refine wpList_store_row rfl 107 _ _ rfl y2.heap.size (arr tag) rfl rfl 107 _ T7.out ZT.out (by rw [arr_size, arr_size, zs_len, TL.out]) (arr_one _) ?_; generalize ((y2.alloc (.cells #[.int .u8 0, .int .u8 0, .int .u8 0, .int .u8 0, .int .u8 0, .int .u8 0, .int .u8 0, .int .u8 0, .int .u8 0, .int .u8 0, .int .u8 0, .int .u8 0, .int .u8 0, .int .u8 0, .int .u8 0, .int .u8 0] 107)).setRow y2.heap.size (arr tag)) = Y at *) | (at_builtin; refine list_app rfl _ _ rfl _ _ (hid1 (kf k) n p) tag y.heap.size rfl rfl O3.out R3.out (by rw [HL.out, TL.out]; have := Q.out.2; omega) Z3.out ?_; intro v4 y4 O4 G4; have V4 := var_grown G4 V3.out (O3.out.ne ZY.out); have B4 := B3.out.grown G4 B3.out.size (O3.out.row (Nat.le_of_lt ZY.out)); obtain ⟨f1, f2, f3, f4⟩ := var2_facts V4; obtain ⟨q4, d4, e4, -, -, -⟩ := O4.rd.parts; generalize (hid1 (kf k) n p ++ tag).length = m4 at e4; subst e4; have hset := hid (var2_set (x' := .int .i64 0) (y' := .slice q4 m4 d4) V4); have hbel := hid (below_set2 (x := .int .i64 0) (y := .slice q4 m4 d4) B4 (Nat.le_refl _)); have hown := hid ((O4.set2 (g := w.heap.size) (x := .int .i64 0) (y := .slice q4 m4 d4) ZY.out).mono (base' := w.heap.size) (Nat.le_of_lt ZY.out)).x; clear V4 B4 O4 G4))
    exact bodyPost_ret (v := .agg #[.int .i64 0, .slice q4 m4 d4]) (results_cell_row rfl _ _ w.heap.size 31 _ _ _ rfl hset.out Tryz.underlying31 rfl (by kernel_rfl)) rfl ⟨_, rfl, by rw [HT.out]; exact hown.out, hbel.out⟩
  exact AllReadyH.nil

theorem isl (vk vn ve vp : Value) (k n e p : List Nat) (w : World) (hk : Rd w vk k) (hn : Rd w vn n) (he : Rd w ve e) (hp : Rd w vp p) (yk : Byt k) (yn : Byt n) (ye : Byt e) (yp : Byt p) :
    Calls Tryz.prog 50 #[vk, vn, ve, vp] w fun r w' => ∃ v, r = .returned (.agg #[.int .i64 (slC k n e p), v]) ∧ Owx w' w.heap.size v (slB k n e p) ∧ Below w.heap.size w w' := by
  by_cases h : slOk k n e p = true
  · rw [show slC k n e p = 0 by rw [slC, if_pos h], show slB k n e p = sld (kf k) n e p by rw [slB, if_pos h]]
    exact isl_ok vk vn ve vp k n e p w hk hn he hp yk yn ye yp h
  · rw [show slC k n e p = 2 by rw [slC, if_neg h], show slB k n e p = [] by rw [slB, if_neg h]]
    exact (isl_no vk vn ve vp k n e p w hk hn he hp (by simpa using h)).mono fun e w' ⟨he, hb⟩ => ⟨_, he, Owx.nil _ _, hb⟩
end Go.Proofs.YtckgjghpfjinfakGreat.W
