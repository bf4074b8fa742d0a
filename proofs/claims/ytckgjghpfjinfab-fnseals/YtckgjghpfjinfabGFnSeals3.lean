/-
  What is sealed: what the program's SealText answers.
  What was sealed is opened: the model's l3Open, OpenText.
  Two blocks held against each other.
-/
import Derived.Test.YtckgjghpfjinfabGFnSeals2
import Derived.Test.YtckgjghpfjinfabAskF
import Derived.Test.YtckgjghpfjinfabL3gWalks
import Derived.Test.YtckgjghpfjinfabAskWalks
import Derived.Test.YtckgjghpfjinfabConvM
import Derived.Lib.Bytes
import Derived.Test.YtckgjghpfjinfabBlkSize
import Derived.Test.YtckgjghpfjinfabSlX
import Derived.Laws.StructEq

namespace Go.Proofs.Ytckgjghpfjinfab.W
open Go.ChangeShapes Go.WideShapes Go.ChangeAt Go.RowKit
open Go.Proofs.Ytckgjghpfjinfab.M

set_option maxRecDepth 100000 in
theorem isl_no (vk vn ve vp : Value) (k n e p : List Nat) (w : World) (hk : Rd w vk k) (hn : Rd w vn n) (he : Rd w ve e) (hp : Rd w vp p) (h : slOk k n e p = false) :
    Calls Try.prog 18 #[vk, vn, ve, vp] w fun r w' => r = .returned (.agg #[.int .i64 2, .slice none 0 0]) ∧ Below w.heap.size w w' := by
  obtain ⟨p1, c1, rfl, -, -, -⟩ := hk.parts
  obtain ⟨p2, c2, rfl, -, -, -⟩ := hn.parts
  obtain ⟨p3, c3, rfl, -, -, -⟩ := he.parts
  obtain ⟨p4, c4, rfl, -, -, -⟩ := hp.parts
  clear hk hn he hp
  have V0 := hid (heap_alloc_new w (.cells #[.int .i64 0, .slice none 0 0] 27))
  have B0 := hid (below_alloc1 w (.cells #[.int .i64 0, .slice none 0 0] 27))
  by_cases ha : askd k n e = true
  · have A := hid ha
    have WI := hid (show inB (p.length : Int) 0 600 = false by
      simp only [slOk, ha, Bool.true_and, decide_eq_false_iff_not] at h
      unfold inB
      rw [decide_eq_false (by omega)])
    clear ha h
    go_enter Try.func18, Try.ntmps18
    go_wp2_with fail
    refine (sfits _ _ _ _ _ _ k n e _).mono ?_
    rintro r W ⟨rfl, hM⟩
    rw [A.out]
    replace V0 := hid (var_below hM V0.out)
    replace B0 := hid (B0.out.trans (hM.mono B0.out.size))
    clear hM
    go_wp2_with fail
    refine (within1 (p.length : Int) 0 600 W.heap.size _ (heap_alloc_new W _)).mono ?_
    rintro r w3 ⟨rfl, hM⟩
    rw [WI.out]
    replace hM := (below_alloc1 W (.cells #[.int .i64 (p.length : Int), .int .i64 0, .int .i64 600] 83)).trans (hM.mono (by simp))
    replace V0 := hid (var_below hM V0.out)
    replace B0 := hid (B0.out.trans (hM.mono B0.out.size))
    clear hM
    obtain ⟨f1, f2, f3, f4⟩ := var2_facts V0.out
    have hset := hid (var2_set (x' := .int .i64 2) (y' := .slice none 0 0) V0.out)
    have hbel := hid (below_set2 (x := .int .i64 2) (y := .slice none 0 0) B0.out (Nat.le_refl _))
    go_wp2
    exact bodyPost_ret (v := .agg #[.int .i64 2, .slice none 0 0]) (results_cell_row rfl _ _ w.heap.size 27 _ _ _ rfl hset.out Try.underlying27 rfl (by kernel_rfl)) rfl ⟨rfl, hbel.out⟩
  · have A := hid (show askd k n e = false by simpa using ha)
    clear ha h
    go_enter Try.func18, Try.ntmps18
    go_wp2_with fail
    refine (sfits _ _ _ _ _ _ k n e _).mono ?_
    rintro r W ⟨rfl, hM⟩
    rw [A.out]
    replace V0 := hid (var_below hM V0.out)
    replace B0 := hid (B0.out.trans (hM.mono B0.out.size))
    clear hM
    obtain ⟨f1, f2, f3, f4⟩ := var2_facts V0.out
    have hset := hid (var2_set (x' := .int .i64 2) (y' := .slice none 0 0) V0.out)
    have hbel := hid (below_set2 (x := .int .i64 2) (y := .slice none 0 0) B0.out (Nat.le_refl _))
    go_wp2
    exact bodyPost_ret (v := .agg #[.int .i64 2, .slice none 0 0]) (results_cell_row rfl _ _ w.heap.size 27 _ _ _ rfl hset.out Try.underlying27 rfl (by kernel_rfl)) rfl ⟨rfl, hbel.out⟩

set_option maxHeartbeats 2000000 in
set_option maxRecDepth 100000 in
theorem isl_ok (vk vn ve vp : Value) (k n e p : List Nat) (w : World) (hk : Rd w vk k) (hn : Rd w vn n) (he : Rd w ve e) (hp : Rd w vp p) (yk : Byt k) (yn : Byt n) (ye : Byt e) (yp : Byt p) (h : slOk k n e p = true) :
    Calls Try.prog 18 #[vk, vn, ve, vp] w fun r w' => ∃ v, r = .returned (.agg #[.int .i64 0, v]) ∧ Owx w' w.heap.size v (sld (kf k) n e p) ∧ Below w.heap.size w w' := by
  have Q := hid (slOk_parts h)
  have A := hid (show askd k n e = true by simp only [slOk, Bool.and_eq_true] at h; exact h.1)
  obtain ⟨b1, o1, c1, e1, -, -⟩ := hk.spot (by have := Q.out.1.1; omega)
  obtain ⟨b2, o2, c2, e2, -, -⟩ := hn.spot (by have := Q.out.1.2.1; omega)
  obtain ⟨p3, c3, rfl, -, -, -⟩ := he.parts
  obtain ⟨p4, c4, rfl, -, -, -⟩ := hp.parts
  subst e1 e2
  have WI := hid (show inB (p.length : Int) 0 600 = true by unfold inB; rw [decide_eq_true (by have := Q.out.2; omega)])
  have HK := hid hk
  have HN := hid hn
  have HE := hid he
  have HP := hid hp
  have V0 := hid (heap_alloc_new w (.cells #[.int .i64 0, .slice none 0 0] 27))
  have B0 := hid (below_alloc1 w (.cells #[.int .i64 0, .slice none 0 0] 27))
  have ZK := hid (key_size k Q.out.1.1)
  have ZN := hid (show (Try.prog.info? 99).map (·.size) = some (arr n).size by rw [arr_size, Q.out.1.2.1]; kernel_rfl)
  have RK := hid (rd_range hk)
  have RN := hid (rd_range hn)
  have JL := hid (jb_len n Q.out.1.2.1)
  have HF := hid (kf_lt k yk)
  clear hk hn he hp h
  go_enter Try.func18, Try.ntmps18
  go_wp2_with fail
  refine (sfits _ _ _ _ _ _ k n e _).mono ?_
  rintro r W ⟨rfl, hM⟩
  rw [A.out]
  replace V0 := hid (var_below hM V0.out)
  replace B0 := hid (B0.out.trans (hM.mono B0.out.size))
  clear hM
  go_wp2_with fail
  refine (within1 (p.length : Int) 0 600 W.heap.size _ (heap_alloc_new W _)).mono ?_
  rintro r w3 ⟨rfl, hM⟩
  rw [WI.out]
  replace hM := (below_alloc1 W (.cells #[.int .i64 (p.length : Int), .int .i64 0, .int .i64 600] 83)).trans (hM.mono (by simp))
  replace V0 := hid (var_below hM V0.out)
  replace B0 := hid (B0.out.trans (hM.mono B0.out.size))
  clear hM
  have P1 := arr_at 78 5 16 Try.underlying78 (some ⟨b1, o1, none⟩) k.length c1 (by rw [Q.out.1.1]; omega)
  have P2 := arr_at 99 5 12 Try.underlying99 (some ⟨b2, o2, none⟩) n.length c2 (by rw [Q.out.1.2.1]; omega)
  go_wp2_with fail
  have V1 : w3.drew.heap[w.heap.size]? = some (.cells #[.int .i64 0, .slice none 0 0] 27) := V0.out
  refine wp_region_held_drew (S := fun w' => Below w.heap.size w w') (by kernel_rfl) B0.out.drew (fun hH => ?_)
  refine wpAnyH_take (i := 0) (v := .slice (some ⟨b1, o1, none⟩) k.length c1) (by simp only [List.getElem?_toArray, List.getElem?_cons_zero]; rfl) (by kernel_rfl) (by kernel_rfl) (by kernel_rfl) (by intro _ _ _ h; exact h) (Or.inl ⟨by rfl, fun w hS => by go_simp⟩) hH ?_
  simp only [Act.put, List.setIfInBounds_toArray, List.set_cons_zero, List.set_cons_succ]
  refine wpAnyH_take (i := 1) (v := .pointer (some ⟨b1, o1, none⟩)) (by simp only [List.getElem?_toArray, List.getElem?_cons_succ, List.getElem?_cons_zero]; rfl) (by kernel_rfl) (by kernel_rfl) (by kernel_rfl) (by intro _ _ _ h; exact h) (Or.inl ⟨by rfl, fun w hS => by go_simp⟩) hH ?_
  simp only [Act.put, List.setIfInBounds_toArray, List.set_cons_zero, List.set_cons_succ]
  refine wpAnyH_take (i := 2) (v := .agg (arr k)) (by simp only [List.getElem?_toArray, List.getElem?_cons_succ, List.getElem?_cons_zero]; rfl) (by kernel_rfl) (by kernel_rfl) (by kernel_rfl) (by intro _ _ _ h; exact h) (yieldsIf_load_mid (by rfl) _ _ rfl b1 o1 rfl (k.map bv) _ (fun w hS => rangeAt.below RK.out hS) Try.underlying78 rfl (by rw [List.length_map, ← arr_size]; exact ZK.out)) hH ?_
  simp only [Act.put, List.setIfInBounds_toArray, List.set_cons_zero, List.set_cons_succ]
  refine wpAnyH_take (i := 3) (v := .slice (some ⟨b2, o2, none⟩) n.length c2) (by simp only [List.getElem?_toArray, List.getElem?_cons_succ, List.getElem?_cons_zero]; rfl) (by kernel_rfl) (by kernel_rfl) (by kernel_rfl) (by intro _ _ _ h; exact h) (Or.inl ⟨by rfl, fun w hS => by go_simp⟩) hH ?_
  simp only [Act.put, List.setIfInBounds_toArray, List.set_cons_zero, List.set_cons_succ]
  refine wpAnyH_take (i := 4) (v := .pointer (some ⟨b2, o2, none⟩)) (by simp only [List.getElem?_toArray, List.getElem?_cons_succ, List.getElem?_cons_zero]; rfl) (by kernel_rfl) (by kernel_rfl) (by kernel_rfl) (by intro _ _ _ h; exact h) (Or.inl ⟨by rfl, fun w hS => by go_simp⟩) hH ?_
  simp only [Act.put, List.setIfInBounds_toArray, List.set_cons_zero, List.set_cons_succ]
  refine wpAnyH_take (i := 5) (v := .agg (arr n)) (by simp only [List.getElem?_toArray, List.getElem?_cons_succ, List.getElem?_cons_zero]; rfl) (by kernel_rfl) (by kernel_rfl) (by kernel_rfl) (by intro _ _ _ h; exact h) (yieldsIf_load_mid (by rfl) _ _ rfl b2 o2 rfl (n.map bv) _ (fun w hS => rangeAt.below RN.out hS) Try.underlying99 rfl (by rw [List.length_map, ← arr_size]; exact ZN.out)) hH ?_
  simp only [Act.put, List.setIfInBounds_toArray, List.set_cons_zero, List.set_cons_succ]
  generalize w3.drew = x at hH V1 ⊢
  refine wpAnyH_ready (rs := [6, 7]) (by kernel_rfl) (by simp) ?_
  refine AllReadyH.cons (by simp only [List.getElem?_toArray, List.getElem?_cons_succ, List.getElem?_cons_zero]; rfl) (fun K hK => ?_) ?_
  · go_simp
    refine (sealerof k n _ Q.out.1.1 Q.out.1.2.1 yk).mono ?_
    rintro r x6 ⟨g, rfl, C, hg, hM⟩
    refine hK.out _ _ (hH.trans (hM.mono hH.size)) (fun hH => ?_)
    clear hK K
    replace V1 := var_below hM V1
    have hg2 := hg
    clear hM
    have hcl := C.lt
    refine wpAnyH_ready (rs := [7]) (by kernel_rfl) (by simp) ?_
    refine AllReadyH.cons (by simp only [List.getElem?_toArray, List.getElem?_cons_succ, List.getElem?_cons_zero]; rfl) (fun K hK => ?_) AllReadyH.nil
    have F9 := heap_alloc_new x6 (.cells #[.pointer none, .int .u64 0, .int .u64 0, .int .u8 0, .int .u8 0, .int .u8 0, .int .u8 0, .int .u8 0, .int .u8 0, .int .u8 0, .int .u8 0, .int .u8 0, .int .u8 0, .int .u8 0, .int .u8 0, .int .u8 0, .int .u8 0, .int .u8 0, .int .u8 0] 97)
    have hs9 := var_lt V1
    have hz := hH.size
    replace V1 := var_alloc (.cells #[.pointer none, .int .u64 0, .int .u64 0, .int .u8 0, .int .u8 0, .int .u8 0, .int .u8 0, .int .u8 0, .int .u8 0, .int .u8 0, .int .u8 0, .int .u8 0, .int .u8 0, .int .u8 0, .int .u8 0, .int .u8 0, .int .u8 0, .int .u8 0, .int .u8 0] 97) V1
    replace C := C.alloc (.cells #[.pointer none, .int .u64 0, .int .u64 0, .int .u8 0, .int .u8 0, .int .u8 0, .int .u8 0, .int .u8 0, .int .u8 0, .int .u8 0, .int .u8 0, .int .u8 0, .int .u8 0, .int .u8 0, .int .u8 0, .int .u8 0, .int .u8 0, .int .u8 0, .int .u8 0] 97)
    go_simp
    refine hK.out _ _ (hH.alloc hH.size _) (fun hH => ?_)
    clear hK K
    have hne : g ≠ x6.heap.size := by omega
    refine wpAnyH_ready (rs := [8]) (by kernel_rfl) (by simp) ?_
    refine AllReadyH.cons (by simp only [List.getElem?_toArray, List.getElem?_cons_succ, List.getElem?_cons_zero]; rfl) (fun K hK => ?_) AllReadyH.nil
    refine step_store_row (by rfl) _ _ _ (by rfl) (x6.heap.size) (sc g (elt (enc (kf k) (zs 16))) (jb n)) (by rfl) (by rfl) 97 _ F9 (sc_info _ _ _ JL.out) (zsc_old _ _ _ JL.out) (sc_one _ _ _) ?_
    have g9l := hid (show w.heap.size < x6.heap.size by have := hs9; omega)
    have BY := hid (below_row hH (g := x6.heap.size) (by omega) (sc g (elt (enc (kf k) (zs 16))) (jb n)))
    refine hK.out _ _ BY.out (fun _ => ?_)
    clear hK K
    simp only [Act.put]
    have SY := hid (show Sv _ _ _ _ _ from setRow_heap _ (x6.heap.size) _ (sc g (elt (enc (kf k) (zs 16))) (jb n)) _ _ F9)
    have CY := hid (C.rowFar (g' := x6.heap.size) (sc g (elt (enc (kf k) (zs 16))) (jb n)) (by omega))
    have VY := hid ((setRow_other (x6.alloc (.cells #[.pointer none, .int .u64 0, .int .u64 0, .int .u8 0, .int .u8 0, .int .u8 0, .int .u8 0, .int .u8 0, .int .u8 0, .int .u8 0, .int .u8 0, .int .u8 0, .int .u8 0, .int .u8 0, .int .u8 0, .int .u8 0, .int .u8 0, .int .u8 0, .int .u8 0] 97)) (x6.heap.size) w.heap.size (sc g (elt (enc (kf k) (zs 16))) (jb n)) (by omega)).trans V1)
    generalize hg9 : x6.heap.size = g9 at *
    generalize (x6.alloc (.cells #[.pointer none, .int .u64 0, .int .u64 0, .int .u8 0, .int .u8 0, .int .u8 0, .int .u8 0, .int .u8 0, .int .u8 0, .int .u8 0, .int .u8 0, .int .u8 0, .int .u8 0, .int .u8 0, .int .u8 0, .int .u8 0, .int .u8 0, .int .u8 0, .int .u8 0] 97)).setRow g9 (sc g (elt (enc (kf k) (zs 16))) (jb n)) = y at *
    clear F9 V1 C hH hs9 hg9
    refine wpAnyH_done (by kernel_rfl) ?_ _
    go_wp2_with (refine wpList_load_row rfl 97 _ rfl g9 rfl 97 (sc g (elt (enc (kf k) (zs 16))) (jb n)) _ _ SY.out Try.underlying97 rfl (sc_info _ _ _ JL.out) ?_)
    refine (ihide g _ n _ p (kf k) _ CY.out HF.out Q.out.1.2.1 yn (HP.out.below BY.out) yp (by have := Q.out.2; omega)).mono ?_
    rintro r y1 ⟨v1, rfl, O1, hM⟩
    have ZY := hid (show w.heap.size < y.heap.size from var_lt VY.out)
    have VZ := hid (var_below hM VY.out)
    have SZ := hid (SY.out.below hM)
    have CZ := hid (CY.out.below hM)
    have BZ := hid (BY.out.trans (hM.mono BY.out.size))
    replace O1 := hid O1
    have Z1 := hid hM.size
    clear hM VY SY CY BY
    have HL := hid (show (hid1 (kf k) n p).length = p.length from strm_len _ _ _)
    go_wp2_with (refine wpList_load_row rfl 97 _ rfl g9 rfl 97 (sc g (elt (enc (kf k) (zs 16))) (jb n)) _ _ SZ.out Try.underlying97 rfl (sc_info _ _ _ JL.out) ?_)
    refine (itag g n _ _ e (hid1 (kf k) n p) (kf k) _ CZ.out HF.out Q.out.1.2.1 yn (HE.out.below BZ.out) O1.out.rd ye (strm_byt _ HF.out _ _ (cu_byt _ (jb_byt n yn)) yp) (by have := Q.out.1.2.2; omega) (by rw [HL.out]; have := Q.out.2; omega)).mono ?_
    rintro r y2 ⟨rfl, hM⟩
    have TL := hid (tg_len (kf k) n e (hid1 (kf k) n p) Q.out.1.2.1)
    have ZT := hid (blk_size (tg (kf k) n e (hid1 (kf k) n p)) TL.out)
    have T7 := hid (show Ar _ _ 79 (zs 16) from heap_alloc_new y2 (.cells #[.int .u8 0, .int .u8 0, .int .u8 0, .int .u8 0, .int .u8 0, .int .u8 0, .int .u8 0, .int .u8 0, .int .u8 0, .int .u8 0, .int .u8 0, .int .u8 0, .int .u8 0, .int .u8 0, .int .u8 0, .int .u8 0] 79))
    have T8 := hid (T7.out.row (l' := tg (kf k) n e (hid1 (kf k) n p)))
    have hN := below_row (below_alloc1 y2 (.cells #[.int .u8 0, .int .u8 0, .int .u8 0, .int .u8 0, .int .u8 0, .int .u8 0, .int .u8 0, .int .u8 0, .int .u8 0, .int .u8 0, .int .u8 0, .int .u8 0, .int .u8 0, .int .u8 0, .int .u8 0, .int .u8 0] 79)) (g := y2.heap.size) (Nat.le_refl _) (arr (tg (kf k) n e (hid1 (kf k) n p)))
    have O3 := hid ((O1.out.below hM).below hN)
    have V3 := hid (var_below hN (var_below hM VZ.out))
    have B3 := hid ((BZ.out.trans (hM.mono BZ.out.size)).trans (hN.mono (Nat.le_trans BZ.out.size hM.size)))
    have Z3 := hid (Nat.le_trans Z1.out (Nat.le_trans hM.size hN.size))
    clear hM hN VZ SZ CZ BZ O1
    have HT := hid (show sld (kf k) n e p = hid1 (kf k) n p ++ tg (kf k) n e (hid1 (kf k) n p) from rfl)
    generalize tg (kf k) n e (hid1 (kf k) n p) = tag at *
    have CB := cut_blk y2.heap.size
    have R3 := hid ((Owx.ofAr (base := 0) (n := 16) T8.out TL.out (Nat.zero_le _) (by unfold maxLen; omega)).rd)
    go_wp2_with (first | (refine wpList_store_row rfl 79 _ _ rfl y2.heap.size (arr tag) rfl rfl 79 _ T7.out ZT.out (by rw [arr_size, arr_size, zs_len, TL.out]) (arr_one _) ?_; generalize ((y2.alloc (.cells #[.int .u8 0, .int .u8 0, .int .u8 0, .int .u8 0, .int .u8 0, .int .u8 0, .int .u8 0, .int .u8 0, .int .u8 0, .int .u8 0, .int .u8 0, .int .u8 0, .int .u8 0, .int .u8 0, .int .u8 0, .int .u8 0] 79)).setRow y2.heap.size (arr tag)) = Y at *) | (at_builtin; refine list_app rfl _ _ rfl _ _ (hid1 (kf k) n p) tag y.heap.size rfl rfl O3.out R3.out (by rw [HL.out, TL.out]; have := Q.out.2; omega) Z3.out ?_; intro v4 y4 O4 G4; have V4 := var_grown G4 V3.out (O3.out.ne ZY.out); have B4 := B3.out.grown G4 B3.out.size (O3.out.row (Nat.le_of_lt ZY.out)); obtain ⟨f1, f2, f3, f4⟩ := var2_facts V4; obtain ⟨q4, d4, e4, -, -, -⟩ := O4.rd.parts; generalize (hid1 (kf k) n p ++ tag).length = m4 at e4; subst e4; have hset := hid (var2_set (x' := .int .i64 0) (y' := .slice q4 m4 d4) V4); have hbel := hid (below_set2 (x := .int .i64 0) (y := .slice q4 m4 d4) B4 (Nat.le_refl _)); have hown := hid ((O4.set2 (g := w.heap.size) (x := .int .i64 0) (y := .slice q4 m4 d4) ZY.out).mono (base' := w.heap.size) (Nat.le_of_lt ZY.out)).x; clear V4 B4 O4 G4))
    exact bodyPost_ret (v := .agg #[.int .i64 0, .slice q4 m4 d4]) (results_cell_row rfl _ _ w.heap.size 27 _ _ _ rfl hset.out Try.underlying27 rfl (by kernel_rfl)) rfl ⟨_, rfl, by rw [HT.out]; exact hown.out, hbel.out⟩
  refine AllReadyH.cons (by simp only [List.getElem?_toArray, List.getElem?_cons_succ, List.getElem?_cons_zero]; rfl) (fun K hK => ?_) ?_
  · have F9 := heap_alloc_new x (.cells #[.pointer none, .int .u64 0, .int .u64 0, .int .u8 0, .int .u8 0, .int .u8 0, .int .u8 0, .int .u8 0, .int .u8 0, .int .u8 0, .int .u8 0, .int .u8 0, .int .u8 0, .int .u8 0, .int .u8 0, .int .u8 0, .int .u8 0, .int .u8 0, .int .u8 0] 97)
    have hs9 := var_lt V1
    have hz := hH.size
    replace V1 := var_alloc (.cells #[.pointer none, .int .u64 0, .int .u64 0, .int .u8 0, .int .u8 0, .int .u8 0, .int .u8 0, .int .u8 0, .int .u8 0, .int .u8 0, .int .u8 0, .int .u8 0, .int .u8 0, .int .u8 0, .int .u8 0, .int .u8 0, .int .u8 0, .int .u8 0, .int .u8 0] 97) V1
    go_simp
    refine hK.out _ _ (hH.alloc hH.size _) (fun hH => ?_)
    clear hK K
    have hsx : (x.alloc (.cells #[.pointer none, .int .u64 0, .int .u64 0, .int .u8 0, .int .u8 0, .int .u8 0, .int .u8 0, .int .u8 0, .int .u8 0, .int .u8 0, .int .u8 0, .int .u8 0, .int .u8 0, .int .u8 0, .int .u8 0, .int .u8 0, .int .u8 0, .int .u8 0, .int .u8 0] 97)).heap.size = x.heap.size + 1 := by simp
    refine wpAnyH_ready (rs := [6]) (by kernel_rfl) (by simp) ?_
    refine AllReadyH.cons (by simp only [List.getElem?_toArray, List.getElem?_cons_succ, List.getElem?_cons_zero]; rfl) (fun K hK => ?_) AllReadyH.nil
    go_simp
    refine (sealerof k n _ Q.out.1.1 Q.out.1.2.1 yk).mono ?_
    rintro r x6 ⟨g, rfl, C, hg, hM⟩
    refine hK.out _ _ (hH.trans (hM.mono hH.size)) (fun hH => ?_)
    clear hK K
    replace V1 := var_below hM V1
    replace F9 := var_below hM F9
    clear hM
    have hne : g ≠ x.heap.size := by omega
    refine wpAnyH_ready (rs := [8]) (by kernel_rfl) (by simp) ?_
    refine AllReadyH.cons (by simp only [List.getElem?_toArray, List.getElem?_cons_succ, List.getElem?_cons_zero]; rfl) (fun K hK => ?_) AllReadyH.nil
    refine step_store_row (by rfl) _ _ _ (by rfl) (x.heap.size) (sc g (elt (enc (kf k) (zs 16))) (jb n)) (by rfl) (by rfl) 97 _ F9 (sc_info _ _ _ JL.out) (zsc_old _ _ _ JL.out) (sc_one _ _ _) ?_
    have g9l := hid (show w.heap.size < x.heap.size by have := hs9; omega)
    have BY := hid (below_row hH (g := x.heap.size) (by omega) (sc g (elt (enc (kf k) (zs 16))) (jb n)))
    refine hK.out _ _ BY.out (fun _ => ?_)
    clear hK K
    simp only [Act.put]
    have SY := hid (show Sv _ _ _ _ _ from setRow_heap _ (x.heap.size) _ (sc g (elt (enc (kf k) (zs 16))) (jb n)) _ _ F9)
    have CY := hid (C.rowFar (g' := x.heap.size) (sc g (elt (enc (kf k) (zs 16))) (jb n)) (by omega))
    have VY := hid ((setRow_other x6 (x.heap.size) w.heap.size (sc g (elt (enc (kf k) (zs 16))) (jb n)) (by omega)).trans V1)
    generalize hg9 : x.heap.size = g9 at *
    generalize x6.setRow g9 (sc g (elt (enc (kf k) (zs 16))) (jb n)) = y at *
    clear F9 V1 C hH hs9 hg9
    refine wpAnyH_done (by kernel_rfl) ?_ _
    go_wp2_with (refine wpList_load_row rfl 97 _ rfl g9 rfl 97 (sc g (elt (enc (kf k) (zs 16))) (jb n)) _ _ SY.out Try.underlying97 rfl (sc_info _ _ _ JL.out) ?_)
    refine (ihide g _ n _ p (kf k) _ CY.out HF.out Q.out.1.2.1 yn (HP.out.below BY.out) yp (by have := Q.out.2; omega)).mono ?_
    rintro r y1 ⟨v1, rfl, O1, hM⟩
    have ZY := hid (show w.heap.size < y.heap.size from var_lt VY.out)
    have VZ := hid (var_below hM VY.out)
    have SZ := hid (SY.out.below hM)
    have CZ := hid (CY.out.below hM)
    have BZ := hid (BY.out.trans (hM.mono BY.out.size))
    replace O1 := hid O1
    have Z1 := hid hM.size
    clear hM VY SY CY BY
    have HL := hid (show (hid1 (kf k) n p).length = p.length from strm_len _ _ _)
    go_wp2_with (refine wpList_load_row rfl 97 _ rfl g9 rfl 97 (sc g (elt (enc (kf k) (zs 16))) (jb n)) _ _ SZ.out Try.underlying97 rfl (sc_info _ _ _ JL.out) ?_)
    refine (itag g n _ _ e (hid1 (kf k) n p) (kf k) _ CZ.out HF.out Q.out.1.2.1 yn (HE.out.below BZ.out) O1.out.rd ye (strm_byt _ HF.out _ _ (cu_byt _ (jb_byt n yn)) yp) (by have := Q.out.1.2.2; omega) (by rw [HL.out]; have := Q.out.2; omega)).mono ?_
    rintro r y2 ⟨rfl, hM⟩
    have TL := hid (tg_len (kf k) n e (hid1 (kf k) n p) Q.out.1.2.1)
    have ZT := hid (blk_size (tg (kf k) n e (hid1 (kf k) n p)) TL.out)
    have T7 := hid (show Ar _ _ 79 (zs 16) from heap_alloc_new y2 (.cells #[.int .u8 0, .int .u8 0, .int .u8 0, .int .u8 0, .int .u8 0, .int .u8 0, .int .u8 0, .int .u8 0, .int .u8 0, .int .u8 0, .int .u8 0, .int .u8 0, .int .u8 0, .int .u8 0, .int .u8 0, .int .u8 0] 79))
    have T8 := hid (T7.out.row (l' := tg (kf k) n e (hid1 (kf k) n p)))
    have hN := below_row (below_alloc1 y2 (.cells #[.int .u8 0, .int .u8 0, .int .u8 0, .int .u8 0, .int .u8 0, .int .u8 0, .int .u8 0, .int .u8 0, .int .u8 0, .int .u8 0, .int .u8 0, .int .u8 0, .int .u8 0, .int .u8 0, .int .u8 0, .int .u8 0] 79)) (g := y2.heap.size) (Nat.le_refl _) (arr (tg (kf k) n e (hid1 (kf k) n p)))
    have O3 := hid ((O1.out.below hM).below hN)
    have V3 := hid (var_below hN (var_below hM VZ.out))
    have B3 := hid ((BZ.out.trans (hM.mono BZ.out.size)).trans (hN.mono (Nat.le_trans BZ.out.size hM.size)))
    have Z3 := hid (Nat.le_trans Z1.out (Nat.le_trans hM.size hN.size))
    clear hM hN VZ SZ CZ BZ O1
    have HT := hid (show sld (kf k) n e p = hid1 (kf k) n p ++ tg (kf k) n e (hid1 (kf k) n p) from rfl)
    generalize tg (kf k) n e (hid1 (kf k) n p) = tag at *
    have CB := cut_blk y2.heap.size
    have R3 := hid ((Owx.ofAr (base := 0) (n := 16) T8.out TL.out (Nat.zero_le _) (by unfold maxLen; omega)).rd)
    go_wp2_with (first | (refine wpList_store_row rfl 79 _ _ rfl y2.heap.size (arr tag) rfl rfl 79 _ T7.out ZT.out (by rw [arr_size, arr_size, zs_len, TL.out]) (arr_one _) ?_; generalize ((y2.alloc (.cells #[.int .u8 0, .int .u8 0, .int .u8 0, .int .u8 0, .int .u8 0, .int .u8 0, .int .u8 0, .int .u8 0, .int .u8 0, .int .u8 0, .int .u8 0, .int .u8 0, .int .u8 0, .int .u8 0, .int .u8 0, .int .u8 0] 79)).setRow y2.heap.size (arr tag)) = Y at *) | (at_builtin; refine list_app rfl _ _ rfl _ _ (hid1 (kf k) n p) tag y.heap.size rfl rfl O3.out R3.out (by rw [HL.out, TL.out]; have := Q.out.2; omega) Z3.out ?_; intro v4 y4 O4 G4; have V4 := var_grown G4 V3.out (O3.out.ne ZY.out); have B4 := B3.out.grown G4 B3.out.size (O3.out.row (Nat.le_of_lt ZY.out)); obtain ⟨f1, f2, f3, f4⟩ := var2_facts V4; obtain ⟨q4, d4, e4, -, -, -⟩ := O4.rd.parts; generalize (hid1 (kf k) n p ++ tag).length = m4 at e4; subst e4; have hset := hid (var2_set (x' := .int .i64 0) (y' := .slice q4 m4 d4) V4); have hbel := hid (below_set2 (x := .int .i64 0) (y := .slice q4 m4 d4) B4 (Nat.le_refl _)); have hown := hid ((O4.set2 (g := w.heap.size) (x := .int .i64 0) (y := .slice q4 m4 d4) ZY.out).mono (base' := w.heap.size) (Nat.le_of_lt ZY.out)).x; clear V4 B4 O4 G4))
    exact bodyPost_ret (v := .agg #[.int .i64 0, .slice q4 m4 d4]) (results_cell_row rfl _ _ w.heap.size 27 _ _ _ rfl hset.out Try.underlying27 rfl (by kernel_rfl)) rfl ⟨_, rfl, by rw [HT.out]; exact hown.out, hbel.out⟩
  exact AllReadyH.nil

theorem isl (vk vn ve vp : Value) (k n e p : List Nat) (w : World) (hk : Rd w vk k) (hn : Rd w vn n) (he : Rd w ve e) (hp : Rd w vp p) (yk : Byt k) (yn : Byt n) (ye : Byt e) (yp : Byt p) :
    Calls Try.prog 18 #[vk, vn, ve, vp] w fun r w' => ∃ v, r = .returned (.agg #[.int .i64 (slC k n e p), v]) ∧ Owx w' w.heap.size v (slB k n e p) ∧ Below w.heap.size w w' := by
  by_cases h : slOk k n e p = true
  · rw [show slC k n e p = 0 by rw [slC, if_pos h], show slB k n e p = sld (kf k) n e p by rw [slB, if_pos h]]
    exact isl_ok vk vn ve vp k n e p w hk hn he hp yk yn ye yp h
  · rw [show slC k n e p = 2 by rw [slC, if_neg h], show slB k n e p = [] by rw [slB, if_neg h]]
    exact (isl_no vk vn ve vp k n e p w hk hn he hp (by simpa using h)).mono fun e w' ⟨he, hb⟩ => ⟨_, he, Owx.nil _ _, hb⟩
end Go.Proofs.Ytckgjghpfjinfab.W

namespace Go.Proofs.Ytckgjghpfjinfab.W
open Go.ChangeShapes Go.WideShapes Go.ChangeAt Go.RowKit
open Go.Proofs.Ytckgjghpfjinfab.M

theorem str_one (a b : List Nat) (ha : Byt a) (hb : Byt b) (h : sameS a b = true) : a = b := by
  unfold sameS strOf at h
  rw [Go.Lib.strOfNums_toList, Go.Lib.strOfNums_toList, beq_iff_eq] at h
  unfold Go.Lib.bytesOf at h
  rw [List.map_map, List.map_map] at h
  have e : a.length = b.length := by simpa using congrArg List.length h
  apply List.ext_getElem e
  intro i h1 h2
  have q := congrArg (fun t => t[i]?) h
  simp only [List.getElem?_map, List.getElem?_eq_getElem h1, List.getElem?_eq_getElem h2, Option.map_some, Option.some.injEq, Function.comp, Int.toNat_natCast] at q
  have r := congrArg UInt8.toNat q
  simp only [UInt8.toNat_ofNat'] at r
  have x1 := ha.at i h1
  have x2 := hb.at i h2
  omega

theorem l3open_short (vk vn ve : Value) (p4 : Option Addr) (c4 l4 : Nat) (w : World) (h : l4 < 16) :
    Calls Try.prog 77 #[vk, vn, ve, .slice p4 l4 c4] w fun r w' => r = .returned (.tuple #[.slice none 0 0, .bool false]) ∧ w' = w := by
  have w1 : IntKind.i64.wrap ((l4 : Int) - 16) = (l4 : Int) - 16 := by rw [IntKind.wrap_i64]; omega
  have c1 : (l4 : Int) - 16 < 0 := by omega
  go_enter Try.func77, Try.ntmps77
  go_wp2
  exact bodyPost_ret (v := .tuple #[.slice none 0 0, .bool false]) (by simp [results, Try.results77, go_sem]) rfl ⟨rfl, rfl⟩

set_option maxHeartbeats 2000000 in
set_option maxRecDepth 100000 in
theorem l3open_yes (vk vn ve vs : Value) (k n e s : List Nat) (m : Nat) (w : World) (hk : Rd w vk k) (hn : Rd w vn n) (he : Rd w ve e) (hs : Rd w vs s) (yk : Byt k) (yn : Byt n) (ye : Byt e) (ys : Byt s) (nk : k.length = 16) (nn : n.length = 12) (ne : e.length ≤ 101) (ns : s.length = m + 16) (nm : m ≤ 700) (ho : tg (kf k) n e (s.take m) = s.drop m) :
    Calls Try.prog 77 #[vk, vn, ve, vs] w fun r w' => ∃ v, r = .returned (.tuple #[v, .bool true]) ∧ Own w' w.heap.size v (hid1 (kf k) n (s.take m)) ∧ Below w.heap.size w w' := by
  have hsq : (!((strOf (tg (kf k) n e (s.take m))).toList == (strOf (s.drop m)).toList)) = false := by rw [ho]; simp
  clear ho

  obtain ⟨p1, c1, rfl, -, -, -⟩ := hk.parts
  obtain ⟨p2, c2, rfl, -, -, -⟩ := hn.parts
  obtain ⟨p3, c3, rfl, -, -, -⟩ := he.parts
  obtain ⟨b4, o4, c4, rfl, hc4, -⟩ := hs.spot (by omega)
  rw [ns] at hs hc4 ⊢
  have PT := hid (rd_piece hs 0 m (by omega))
  rw [Nat.add_zero, Nat.sub_zero, sub_take] at PT
  have PD := hid (rd_piece hs m 16 (by omega))
  rw [sub_drop s m 16 (by omega)] at PD
  have HK := hid hk
  have HN := hid hn
  have HE := hid he
  have NK := hid nk
  have NN := hid nn
  have NE := hid ne
  have TLn := hid (show (s.take m).length = m by rw [List.length_take]; omega)
  have TY := hid (show Byt (s.take m) from fun x hx => ys x (List.mem_of_mem_take hx))
  have DY := hid (show Byt (s.drop m) from fun x hx => ys x (List.mem_of_mem_drop hx))
  have HF := hid (kf_lt k yk)
  have TGY := hid (tg_byt (kf k) HF.out n e (s.take m) yn)
  have RU := run_upto b4 o4 (m + 16) c4 m (by omega) (by omega)
  have RF := run_from b4 o4 (m + 16) c4 m (by omega) (by omega)
  rw [Nat.add_sub_cancel_left] at RF
  have w1 : IntKind.i64.wrap (((m + 16 : Nat) : Int) - 16) = (m : Int) := by rw [IntKind.wrap_i64]; omega
  have e1 : ((m + 16 : Nat) : Int) - 16 = (m : Int) := by omega
  have e2 : (m : Int) + 16 - 16 = (m : Int) := by omega
  have m0 : ¬ (m : Int) < 0 := by omega
  clear hk hn he hs nk nn ne ns
  go_enter Try.func77, Try.ntmps77
  go_wp2_with fail
  refine (l2keys _ k _ HK.out yk NK.out).mono ?_
  rintro r w1 ⟨rfl, K1, hM⟩
  have B1 := hid hM
  have K1 := hid K1
  clear hM
  go_wp2_with fail
  have KL := hid K1.out.lt
  have K2 : Ar w1.drew w.heap.size 5 (rowTo 176 (kf k) 176) := K1.out
  refine wp_region_held_drew (S := fun w' => Below w.heap.size w w') (by kernel_rfl) B1.out.drew (fun hH => ?_)
  refine wpAnyH_take (i := 0) (v := .slice (some ⟨w.heap.size, 0, none⟩) 176 176) (by simp only [List.getElem?_toArray, List.getElem?_cons_zero]; rfl) (by kernel_rfl) (by kernel_rfl) (by kernel_rfl) (by intro _ _ _ h; exact h) (Or.inl ⟨by rfl, fun w hS => by go_simp⟩) hH ?_
  simp only [Act.put, List.setIfInBounds_toArray, List.set_cons_zero, List.set_cons_succ]
  refine wpAnyH_take (i := 1) (v := .slice p2 n.length c2) (by simp only [List.getElem?_toArray, List.getElem?_cons_succ, List.getElem?_cons_zero]; rfl) (by kernel_rfl) (by kernel_rfl) (by kernel_rfl) (by intro _ _ _ h; exact h) (Or.inl ⟨by rfl, fun w hS => by go_simp⟩) hH ?_
  simp only [Act.put, List.setIfInBounds_toArray, List.set_cons_zero, List.set_cons_succ]
  refine wpAnyH_take (i := 2) (v := .slice p3 e.length c3) (by simp only [List.getElem?_toArray, List.getElem?_cons_succ, List.getElem?_cons_zero]; rfl) (by kernel_rfl) (by kernel_rfl) (by kernel_rfl) (by intro _ _ _ h; exact h) (Or.inl ⟨by rfl, fun w hS => by go_simp⟩) hH ?_
  simp only [Act.put, List.setIfInBounds_toArray, List.set_cons_zero, List.set_cons_succ]
  refine wpAnyH_take (i := 3) (v := .slice (some ⟨b4, o4, none⟩) (m + 16) c4) (by simp only [List.getElem?_toArray, List.getElem?_cons_succ, List.getElem?_cons_zero]; rfl) (by kernel_rfl) (by kernel_rfl) (by kernel_rfl) (by intro _ _ _ h; exact h) (Or.inl ⟨by rfl, fun w hS => by go_simp⟩) hH ?_
  simp only [Act.put, List.setIfInBounds_toArray, List.set_cons_zero, List.set_cons_succ]
  refine wpAnyH_take (i := 4) (v := .int .i64 (m : Int)) (by simp only [List.getElem?_toArray, List.getElem?_cons_succ, List.getElem?_cons_zero]; rfl) (by kernel_rfl) (by kernel_rfl) (by kernel_rfl) (by intro _ _ _ h; exact h) (Or.inl ⟨by rfl, fun w hS => by go_simp⟩) hH ?_
  simp only [Act.put, List.setIfInBounds_toArray, List.set_cons_zero, List.set_cons_succ]
  refine wpAnyH_take (i := 5) (v := .slice (some ⟨b4, o4, none⟩) m c4) (by simp only [List.getElem?_toArray, List.getElem?_cons_succ, List.getElem?_cons_zero]; rfl) (by kernel_rfl) (by kernel_rfl) (by kernel_rfl) (by intro _ _ _ h; exact h) (Or.inl ⟨by rfl, fun w hS => by go_simp⟩) hH ?_
  simp only [Act.put, List.setIfInBounds_toArray, List.set_cons_zero, List.set_cons_succ]
  refine wpAnyH_take (i := 8) (v := .slice (some ⟨b4, o4, none⟩) (m + 16) c4) (by simp only [List.getElem?_toArray, List.getElem?_cons_succ, List.getElem?_cons_zero]; rfl) (by kernel_rfl) (by kernel_rfl) (by kernel_rfl) (by intro _ _ _ h; exact h) (Or.inl ⟨by rfl, fun w hS => by go_simp⟩) hH ?_
  simp only [Act.put, List.setIfInBounds_toArray, List.set_cons_zero, List.set_cons_succ]
  refine wpAnyH_take (i := 9) (v := .int .i64 (m : Int)) (by simp only [List.getElem?_toArray, List.getElem?_cons_succ, List.getElem?_cons_zero]; rfl) (by kernel_rfl) (by kernel_rfl) (by kernel_rfl) (by intro _ _ _ h; exact h) (Or.inl ⟨by rfl, fun w hS => by go_simp⟩) hH ?_
  simp only [Act.put, List.setIfInBounds_toArray, List.set_cons_zero, List.set_cons_succ]
  refine wpAnyH_take (i := 10) (v := .slice (some ⟨b4, o4 + m, none⟩) 16 (c4 - m)) (by simp only [List.getElem?_toArray, List.getElem?_cons_succ, List.getElem?_cons_zero]; rfl) (by kernel_rfl) (by kernel_rfl) (by kernel_rfl) (by intro _ _ _ h; exact h) (Or.inl ⟨by rfl, fun w hS => by go_simp⟩) hH ?_
  simp only [Act.put, List.setIfInBounds_toArray, List.set_cons_zero, List.set_cons_succ]
  refine wpAnyH_take (i := 11) (v := .string (strOf (s.drop m))) (by simp only [List.getElem?_toArray, List.getElem?_cons_succ, List.getElem?_cons_zero]; rfl) (by kernel_rfl) (by kernel_rfl) (by kernel_rfl) (by intro _ _ _ h; exact h) (Or.inl ⟨by rfl, fun w hS => by have c := conv _ (s.drop m) w (PD.out.below hS); go_simp⟩) hH ?_
  simp only [Act.put, List.setIfInBounds_toArray, List.set_cons_zero, List.set_cons_succ]
  generalize w1.drew = x at hH K2 ⊢
  refine wpAnyH_ready (rs := [6]) (by kernel_rfl) (by simp) ?_
  refine AllReadyH.cons (by simp only [List.getElem?_toArray, List.getElem?_cons_succ, List.getElem?_cons_zero]; rfl) (fun K hK => ?_) AllReadyH.nil
  go_simp
  refine (l3tag _ (kf k) _ _ _ n e (s.take m) _ K2 HF.out (HN.out.below hH) (HE.out.below hH) (PT.out.below hH) yn ye TY.out NN.out NE.out (by rw [TLn.out]; exact nm)).mono ?_
  rintro r x6 ⟨v6, rfl, O6, hM⟩
  refine hK.out _ _ (hH.trans (hM.mono hH.size)) (fun hH => ?_)
  clear hK K
  replace K2 := K2.below hM
  clear hM
  have cv := conv _ _ _ O6.rd
  refine wpAnyH_ready (rs := [7]) (by kernel_rfl) (by simp) ?_
  refine AllReadyH.cons (by simp only [List.getElem?_toArray, List.getElem?_cons_succ, List.getElem?_cons_zero]; rfl) (fun K hK => ?_) AllReadyH.nil
  go_simp
  refine hK.out _ _ hH (fun hH => ?_)
  clear hK K
  refine wpAnyH_ready (rs := [12]) (by kernel_rfl) (by simp) ?_
  refine AllReadyH.cons (by simp only [List.getElem?_toArray, List.getElem?_cons_succ, List.getElem?_cons_zero]; rfl) (fun K hK => ?_) AllReadyH.nil
  go_simp
  refine hK.out _ _ hH (fun hH => ?_)
  clear hK K
  refine wpAnyH_done (by kernel_rfl) ?_ _
  clear cv O6
  replace hH := hid hH
  replace K2 := hid K2
  go_wp2_with fail
  have K3 : Ar x6.drew w.heap.size 5 (rowTo 176 (kf k) 176) := K2.out
  refine wp_region_held_drew (S := fun w' => Below w.heap.size w w') (by kernel_rfl) hH.out.drew (fun hH => ?_)
  refine wpAnyH_take (i := 0) (v := .slice (some ⟨w.heap.size, 0, none⟩) 176 176) (by simp only [List.getElem?_toArray, List.getElem?_cons_zero]; rfl) (by kernel_rfl) (by kernel_rfl) (by kernel_rfl) (by intro _ _ _ h; exact h) (Or.inl ⟨by rfl, fun w hS => by go_simp⟩) hH ?_
  simp only [Act.put, List.setIfInBounds_toArray, List.set_cons_zero, List.set_cons_succ]
  refine wpAnyH_take (i := 1) (v := .slice p2 n.length c2) (by simp only [List.getElem?_toArray, List.getElem?_cons_succ, List.getElem?_cons_zero]; rfl) (by kernel_rfl) (by kernel_rfl) (by kernel_rfl) (by intro _ _ _ h; exact h) (Or.inl ⟨by rfl, fun w hS => by go_simp⟩) hH ?_
  simp only [Act.put, List.setIfInBounds_toArray, List.set_cons_zero, List.set_cons_succ]
  refine wpAnyH_take (i := 4) (v := .slice (some ⟨b4, o4, none⟩) (m + 16) c4) (by simp only [List.getElem?_toArray, List.getElem?_cons_succ, List.getElem?_cons_zero]; rfl) (by kernel_rfl) (by kernel_rfl) (by kernel_rfl) (by intro _ _ _ h; exact h) (Or.inl ⟨by rfl, fun w hS => by go_simp⟩) hH ?_
  simp only [Act.put, List.setIfInBounds_toArray, List.set_cons_zero, List.set_cons_succ]
  refine wpAnyH_take (i := 5) (v := .int .i64 (m : Int)) (by simp only [List.getElem?_toArray, List.getElem?_cons_succ, List.getElem?_cons_zero]; rfl) (by kernel_rfl) (by kernel_rfl) (by kernel_rfl) (by intro _ _ _ h; exact h) (Or.inl ⟨by rfl, fun w hS => by go_simp⟩) hH ?_
  simp only [Act.put, List.setIfInBounds_toArray, List.set_cons_zero, List.set_cons_succ]
  refine wpAnyH_take (i := 6) (v := .slice (some ⟨b4, o4, none⟩) m c4) (by simp only [List.getElem?_toArray, List.getElem?_cons_succ, List.getElem?_cons_zero]; rfl) (by kernel_rfl) (by kernel_rfl) (by kernel_rfl) (by intro _ _ _ h; exact h) (Or.inl ⟨by rfl, fun w hS => by go_simp⟩) hH ?_
  simp only [Act.put, List.setIfInBounds_toArray, List.set_cons_zero, List.set_cons_succ]
  refine wpAnyH_ready (rs := [2]) (by kernel_rfl) (by simp) ?_
  refine AllReadyH.cons (by simp only [List.getElem?_toArray, List.getElem?_cons_succ, List.getElem?_cons_zero]; rfl) (fun K hK => ?_) AllReadyH.nil
  go_simp
  refine (l3first _ n _ (HN.out.below hH) (by rw [NN.out]; omega)).mono ?_
  rintro r x2 ⟨v2, rfl, O2, hM⟩
  refine hK.out _ _ (hH.trans (hM.mono hH.size)) (fun hH => ?_)
  clear hK K
  replace K3 := K3.below hM
  clear hM
  refine wpAnyH_ready (rs := [3]) (by kernel_rfl) (by simp) ?_
  refine AllReadyH.cons (by simp only [List.getElem?_toArray, List.getElem?_cons_succ, List.getElem?_cons_zero]; rfl) (fun K hK => ?_) AllReadyH.nil
  go_simp
  refine (l3count _ (jb n) _ O2.rd (jb_byt n yn) (jb_len n NN.out)).mono ?_
  rintro r x3 ⟨v3, rfl, O3, hM⟩
  refine hK.out _ _ (hH.trans (hM.mono hH.size)) (fun hH => ?_)
  clear hK K
  replace K3 := K3.below hM
  clear hM O2
  refine wpAnyH_ready (rs := [7]) (by kernel_rfl) (by simp) ?_
  refine AllReadyH.cons (by simp only [List.getElem?_toArray, List.getElem?_cons_succ, List.getElem?_cons_zero]; rfl) (fun K hK => ?_) AllReadyH.nil
  go_simp
  refine (l3stream _ (kf k) _ _ (cu (jb n)) (s.take m) _ K3 HF.out O3.rd (cu_len _ (jb_len n NN.out)) (cu_byt _ (jb_byt n yn)) (PT.out.below hH) TY.out (by rw [TLn.out]; omega)).mono ?_
  rintro r x7 ⟨v7, rfl, O7, hM⟩
  have O8 := hid (O7.mono (base' := w.heap.size) hH.size)
  refine hK.out _ _ (hH.trans (hM.mono hH.size)) (fun hH => ?_)
  clear hK K hM O7 O3
  refine wpAnyH_ready (rs := [8]) (by kernel_rfl) (by simp) ?_
  refine AllReadyH.cons (by simp only [List.getElem?_toArray, List.getElem?_cons_succ, List.getElem?_cons_zero]; rfl) (fun K hK => ?_) AllReadyH.nil
  go_simp
  refine hK.out _ _ hH (fun hH => ?_)
  clear hK K
  refine wpAnyH_ready (rs := [9]) (by kernel_rfl) (by simp) ?_
  refine AllReadyH.cons (by simp only [List.getElem?_toArray, List.getElem?_cons_succ, List.getElem?_cons_zero]; rfl) (fun K hK => ?_) AllReadyH.nil
  go_simp
  refine hK.out _ _ hH (fun hH => ?_)
  clear hK K
  refine wpAnyH_done (by kernel_rfl) ?_ _
  go_wp2_with fail
  exact bodyPost_ret (v := .tuple #[v7, .bool true]) (by simp [results, Try.results77, go_sem]) rfl ⟨_, rfl, O8.out, hH⟩

set_option maxHeartbeats 2000000 in
set_option maxRecDepth 100000 in
theorem l3open_no (vk vn ve vs : Value) (k n e s : List Nat) (m : Nat) (w : World) (hk : Rd w vk k) (hn : Rd w vn n) (he : Rd w ve e) (hs : Rd w vs s) (yk : Byt k) (yn : Byt n) (ye : Byt e) (ys : Byt s) (nk : k.length = 16) (nn : n.length = 12) (ne : e.length ≤ 101) (ns : s.length = m + 16) (nm : m ≤ 700) (ho : ¬ tg (kf k) n e (s.take m) = s.drop m) :
    Calls Try.prog 77 #[vk, vn, ve, vs] w fun r w' => ∃ v, r = .returned (.tuple #[v, .bool false]) ∧ Own w' w.heap.size v [] ∧ Below w.heap.size w w' := by
  have hsq : (!((strOf (tg (kf k) n e (s.take m))).toList == (strOf (s.drop m)).toList)) = true := by
    cases hq : ((strOf (tg (kf k) n e (s.take m))).toList == (strOf (s.drop m)).toList) with
    | false => rfl
    | true => exact absurd (str_one _ _ (tg_byt (kf k) (kf_lt k yk) n e (s.take m) yn) (fun x hx => ys x (List.mem_of_mem_drop hx)) hq) ho
  clear ho

  obtain ⟨p1, c1, rfl, -, -, -⟩ := hk.parts
  obtain ⟨p2, c2, rfl, -, -, -⟩ := hn.parts
  obtain ⟨p3, c3, rfl, -, -, -⟩ := he.parts
  obtain ⟨b4, o4, c4, rfl, hc4, -⟩ := hs.spot (by omega)
  rw [ns] at hs hc4 ⊢
  have PT := hid (rd_piece hs 0 m (by omega))
  rw [Nat.add_zero, Nat.sub_zero, sub_take] at PT
  have PD := hid (rd_piece hs m 16 (by omega))
  rw [sub_drop s m 16 (by omega)] at PD
  have HK := hid hk
  have HN := hid hn
  have HE := hid he
  have NK := hid nk
  have NN := hid nn
  have NE := hid ne
  have TLn := hid (show (s.take m).length = m by rw [List.length_take]; omega)
  have TY := hid (show Byt (s.take m) from fun x hx => ys x (List.mem_of_mem_take hx))
  have DY := hid (show Byt (s.drop m) from fun x hx => ys x (List.mem_of_mem_drop hx))
  have HF := hid (kf_lt k yk)
  have TGY := hid (tg_byt (kf k) HF.out n e (s.take m) yn)
  have RU := run_upto b4 o4 (m + 16) c4 m (by omega) (by omega)
  have RF := run_from b4 o4 (m + 16) c4 m (by omega) (by omega)
  rw [Nat.add_sub_cancel_left] at RF
  have w1 : IntKind.i64.wrap (((m + 16 : Nat) : Int) - 16) = (m : Int) := by rw [IntKind.wrap_i64]; omega
  have e1 : ((m + 16 : Nat) : Int) - 16 = (m : Int) := by omega
  have e2 : (m : Int) + 16 - 16 = (m : Int) := by omega
  have m0 : ¬ (m : Int) < 0 := by omega
  clear hk hn he hs nk nn ne ns
  go_enter Try.func77, Try.ntmps77
  go_wp2_with fail
  refine (l2keys _ k _ HK.out yk NK.out).mono ?_
  rintro r w1 ⟨rfl, K1, hM⟩
  have B1 := hid hM
  have K1 := hid K1
  clear hM
  go_wp2_with fail
  have KL := hid K1.out.lt
  have K2 : Ar w1.drew w.heap.size 5 (rowTo 176 (kf k) 176) := K1.out
  refine wp_region_held_drew (S := fun w' => Below w.heap.size w w') (by kernel_rfl) B1.out.drew (fun hH => ?_)
  refine wpAnyH_take (i := 0) (v := .slice (some ⟨w.heap.size, 0, none⟩) 176 176) (by simp only [List.getElem?_toArray, List.getElem?_cons_zero]; rfl) (by kernel_rfl) (by kernel_rfl) (by kernel_rfl) (by intro _ _ _ h; exact h) (Or.inl ⟨by rfl, fun w hS => by go_simp⟩) hH ?_
  simp only [Act.put, List.setIfInBounds_toArray, List.set_cons_zero, List.set_cons_succ]
  refine wpAnyH_take (i := 1) (v := .slice p2 n.length c2) (by simp only [List.getElem?_toArray, List.getElem?_cons_succ, List.getElem?_cons_zero]; rfl) (by kernel_rfl) (by kernel_rfl) (by kernel_rfl) (by intro _ _ _ h; exact h) (Or.inl ⟨by rfl, fun w hS => by go_simp⟩) hH ?_
  simp only [Act.put, List.setIfInBounds_toArray, List.set_cons_zero, List.set_cons_succ]
  refine wpAnyH_take (i := 2) (v := .slice p3 e.length c3) (by simp only [List.getElem?_toArray, List.getElem?_cons_succ, List.getElem?_cons_zero]; rfl) (by kernel_rfl) (by kernel_rfl) (by kernel_rfl) (by intro _ _ _ h; exact h) (Or.inl ⟨by rfl, fun w hS => by go_simp⟩) hH ?_
  simp only [Act.put, List.setIfInBounds_toArray, List.set_cons_zero, List.set_cons_succ]
  refine wpAnyH_take (i := 3) (v := .slice (some ⟨b4, o4, none⟩) (m + 16) c4) (by simp only [List.getElem?_toArray, List.getElem?_cons_succ, List.getElem?_cons_zero]; rfl) (by kernel_rfl) (by kernel_rfl) (by kernel_rfl) (by intro _ _ _ h; exact h) (Or.inl ⟨by rfl, fun w hS => by go_simp⟩) hH ?_
  simp only [Act.put, List.setIfInBounds_toArray, List.set_cons_zero, List.set_cons_succ]
  refine wpAnyH_take (i := 4) (v := .int .i64 (m : Int)) (by simp only [List.getElem?_toArray, List.getElem?_cons_succ, List.getElem?_cons_zero]; rfl) (by kernel_rfl) (by kernel_rfl) (by kernel_rfl) (by intro _ _ _ h; exact h) (Or.inl ⟨by rfl, fun w hS => by go_simp⟩) hH ?_
  simp only [Act.put, List.setIfInBounds_toArray, List.set_cons_zero, List.set_cons_succ]
  refine wpAnyH_take (i := 5) (v := .slice (some ⟨b4, o4, none⟩) m c4) (by simp only [List.getElem?_toArray, List.getElem?_cons_succ, List.getElem?_cons_zero]; rfl) (by kernel_rfl) (by kernel_rfl) (by kernel_rfl) (by intro _ _ _ h; exact h) (Or.inl ⟨by rfl, fun w hS => by go_simp⟩) hH ?_
  simp only [Act.put, List.setIfInBounds_toArray, List.set_cons_zero, List.set_cons_succ]
  refine wpAnyH_take (i := 8) (v := .slice (some ⟨b4, o4, none⟩) (m + 16) c4) (by simp only [List.getElem?_toArray, List.getElem?_cons_succ, List.getElem?_cons_zero]; rfl) (by kernel_rfl) (by kernel_rfl) (by kernel_rfl) (by intro _ _ _ h; exact h) (Or.inl ⟨by rfl, fun w hS => by go_simp⟩) hH ?_
  simp only [Act.put, List.setIfInBounds_toArray, List.set_cons_zero, List.set_cons_succ]
  refine wpAnyH_take (i := 9) (v := .int .i64 (m : Int)) (by simp only [List.getElem?_toArray, List.getElem?_cons_succ, List.getElem?_cons_zero]; rfl) (by kernel_rfl) (by kernel_rfl) (by kernel_rfl) (by intro _ _ _ h; exact h) (Or.inl ⟨by rfl, fun w hS => by go_simp⟩) hH ?_
  simp only [Act.put, List.setIfInBounds_toArray, List.set_cons_zero, List.set_cons_succ]
  refine wpAnyH_take (i := 10) (v := .slice (some ⟨b4, o4 + m, none⟩) 16 (c4 - m)) (by simp only [List.getElem?_toArray, List.getElem?_cons_succ, List.getElem?_cons_zero]; rfl) (by kernel_rfl) (by kernel_rfl) (by kernel_rfl) (by intro _ _ _ h; exact h) (Or.inl ⟨by rfl, fun w hS => by go_simp⟩) hH ?_
  simp only [Act.put, List.setIfInBounds_toArray, List.set_cons_zero, List.set_cons_succ]
  refine wpAnyH_take (i := 11) (v := .string (strOf (s.drop m))) (by simp only [List.getElem?_toArray, List.getElem?_cons_succ, List.getElem?_cons_zero]; rfl) (by kernel_rfl) (by kernel_rfl) (by kernel_rfl) (by intro _ _ _ h; exact h) (Or.inl ⟨by rfl, fun w hS => by have c := conv _ (s.drop m) w (PD.out.below hS); go_simp⟩) hH ?_
  simp only [Act.put, List.setIfInBounds_toArray, List.set_cons_zero, List.set_cons_succ]
  generalize w1.drew = x at hH K2 ⊢
  refine wpAnyH_ready (rs := [6]) (by kernel_rfl) (by simp) ?_
  refine AllReadyH.cons (by simp only [List.getElem?_toArray, List.getElem?_cons_succ, List.getElem?_cons_zero]; rfl) (fun K hK => ?_) AllReadyH.nil
  go_simp
  refine (l3tag _ (kf k) _ _ _ n e (s.take m) _ K2 HF.out (HN.out.below hH) (HE.out.below hH) (PT.out.below hH) yn ye TY.out NN.out NE.out (by rw [TLn.out]; exact nm)).mono ?_
  rintro r x6 ⟨v6, rfl, O6, hM⟩
  refine hK.out _ _ (hH.trans (hM.mono hH.size)) (fun hH => ?_)
  clear hK K
  replace K2 := K2.below hM
  clear hM
  have cv := conv _ _ _ O6.rd
  refine wpAnyH_ready (rs := [7]) (by kernel_rfl) (by simp) ?_
  refine AllReadyH.cons (by simp only [List.getElem?_toArray, List.getElem?_cons_succ, List.getElem?_cons_zero]; rfl) (fun K hK => ?_) AllReadyH.nil
  go_simp
  refine hK.out _ _ hH (fun hH => ?_)
  clear hK K
  refine wpAnyH_ready (rs := [12]) (by kernel_rfl) (by simp) ?_
  refine AllReadyH.cons (by simp only [List.getElem?_toArray, List.getElem?_cons_succ, List.getElem?_cons_zero]; rfl) (fun K hK => ?_) AllReadyH.nil
  go_simp
  refine hK.out _ _ hH (fun hH => ?_)
  clear hK K
  refine wpAnyH_done (by kernel_rfl) ?_ _
  clear cv O6
  replace hH := hid hH
  clear K2
  go_wp2_with fail
  exact bodyPost_ret (v := .tuple #[.slice none 0 0, .bool false]) (by simp [results, Try.results77, go_sem]) rfl ⟨_, rfl, Own.nil _ _, hH.out⟩

set_option maxRecDepth 100000 in
theorem sop_no (vk vn ve vp : Value) (k n e s : List Nat) (w : World) (hk : Rd w vk k) (hn : Rd w vn n) (he : Rd w ve e) (hp : Rd w vp s) (h : opOk k n e s = false) :
    Calls Try.prog 22 #[vk, vn, ve, vp] w fun r w' => r = .returned (.agg #[.int .i64 2, .slice none 0 0]) ∧ Below w.heap.size w w' := by
  obtain ⟨p1, c1, rfl, -, -, -⟩ := hk.parts
  obtain ⟨p2, c2, rfl, -, -, -⟩ := hn.parts
  obtain ⟨p3, c3, rfl, -, -, -⟩ := he.parts
  obtain ⟨p4, c4, rfl, -, -, -⟩ := hp.parts
  clear hk hn he hp
  by_cases ha : askd k n e = true
  · have A := hid ha
    have d4 : (616 : Int) < (s.length : Int) := by
      simp only [opOk, ha, Bool.true_and, decide_eq_false_iff_not] at h
      omega
    clear ha h
    go_enter Try.func22, Try.ntmps22
    go_wp2_with fail
    refine (l3asked _ _ _ _ _ _ k n e _).mono ?_
    rintro r w0 ⟨rfl, rfl⟩
    rw [A.out]
    go_wp2
    exact bodyPost_ret (v := .agg #[.int .i64 2, .slice none 0 0]) (by simp [results, Try.results22, go_sem]) rfl ⟨rfl, below_alloc1 w _⟩
  · have A := hid (show askd k n e = false by simpa using ha)
    clear ha h
    go_enter Try.func22, Try.ntmps22
    go_wp2_with fail
    refine (l3asked _ _ _ _ _ _ k n e _).mono ?_
    rintro r w0 ⟨rfl, rfl⟩
    rw [A.out]
    go_wp2
    exact bodyPost_ret (v := .agg #[.int .i64 2, .slice none 0 0]) (by simp [results, Try.results22, go_sem]) rfl ⟨rfl, below_alloc1 w _⟩

set_option maxRecDepth 100000 in
theorem sop_at (vk vn ve vp : Value) (k n e s l : List Nat) (c : Int) (b : Bool) (w : World) (hk : Rd w vk k) (hn : Rd w vn n) (he : Rd w ve e) (hp : Rd w vp s) (h : opOk k n e s = true) (hcb : (b = true ∧ c = 0) ∨ (b = false ∧ c = 9 ∧ l = []))
    (HC : Hid (∀ (w : World) (v0 v1 v2 v3 : Value), Rd w v0 k → Rd w v1 n → Rd w v2 e → Rd w v3 s → Calls Try.prog 77 #[v0, v1, v2, v3] w fun r w' => ∃ v, r = .returned (.tuple #[v, .bool b]) ∧ Own w' w.heap.size v l ∧ Below w.heap.size w w')) :
    Calls Try.prog 22 #[vk, vn, ve, vp] w fun r w' => ∃ v, r = .returned (.agg #[.int .i64 c, v]) ∧ Owx w' w.heap.size v l ∧ Below w.heap.size w w' := by
  obtain ⟨p1, c1, rfl, -, -, -⟩ := hk.parts
  obtain ⟨p2, c2, rfl, -, -, -⟩ := hn.parts
  obtain ⟨p3, c3, rfl, -, -, -⟩ := he.parts
  obtain ⟨p4, c4, rfl, -, -, -⟩ := hp.parts
  have Q := hid (opOk_parts h)
  have A := hid (show askd k n e = true by simp only [opOk, Bool.and_eq_true] at h; exact h.1)
  have d4 : ¬ (616 : Int) < (s.length : Int) := by have := Q.out.2; omega
  have b0 := below_alloc1 w (.cells #[.int .i64 0, .slice none 0 0] 27)
  have HK := hid (hk.below b0)
  have HN := hid (hn.below b0)
  have HE := hid (he.below b0)
  have HP := hid (hp.below b0)
  clear hk hn he hp h b0
  go_enter Try.func22, Try.ntmps22
  go_wp2_with fail
  refine (l3asked _ _ _ _ _ _ k n e _).mono ?_
  rintro r w0 ⟨rfl, rfl⟩
  rw [A.out]
  go_wp2_with fail
  refine (HC.out _ _ _ _ _ HK.out HN.out HE.out HP.out).mono ?_
  rintro r w1 ⟨v, rfl, O, B1⟩
  simp only [World.size_alloc] at O
  obtain ⟨q, cq, rfl, -, -, -⟩ := O.rd.parts
  have hv := var_below B1 (heap_alloc_new w (.cells #[.int .i64 0, .slice none 0 0] 27))
  have hB3 := (below_alloc1 w (.cells #[.int .i64 0, .slice none 0 0] 27)).trans (B1.mono (by simp))
  obtain ⟨f1, f2, f3, f4⟩ := var2_facts hv
  clear HK HN HE HP HC
  rcases hcb with ⟨rfl, rfl⟩ | ⟨rfl, rfl, rfl⟩
  · have hset := hid (var2_set (x' := .int .i64 0) (y' := .slice q l.length cq) hv)
    have hbel := hid (below_set2 (x := .int .i64 0) (y := .slice q l.length cq) hB3 (Nat.le_refl _))
    have hown := hid ((O.set2 (g := w.heap.size) (x := .int .i64 0) (y := .slice q l.length cq) (by omega)).mono (base' := w.heap.size) (by omega)).x
    clear hv O B1 hB3
    go_wp2
    exact bodyPost_ret (v := .agg #[.int .i64 0, .slice q l.length cq]) (results_cell_row rfl _ _ w.heap.size 27 _ _ _ rfl hset.out Try.underlying27 rfl (by kernel_rfl)) rfl ⟨_, rfl, hown.out, hbel.out⟩
  · have hset := hid (var2_set (x' := .int .i64 9) (y' := .slice none 0 0) hv)
    have hbel := hid (below_set2 (x := .int .i64 9) (y := .slice none 0 0) hB3 (Nat.le_refl _))
    clear hv O B1 hB3
    go_wp2
    exact bodyPost_ret (v := .agg #[.int .i64 9, .slice none 0 0]) (results_cell_row rfl _ _ w.heap.size 27 _ _ _ rfl hset.out Try.underlying27 rfl (by kernel_rfl)) rfl ⟨_, rfl, Owx.nil _ _, hbel.out⟩

theorem sop (vk vn ve vp : Value) (k n e s : List Nat) (w : World) (hk : Rd w vk k) (hn : Rd w vn n) (he : Rd w ve e) (hp : Rd w vp s) (yk : Byt k) (yn : Byt n) (ye : Byt e) (ys : Byt s) :
    Calls Try.prog 22 #[vk, vn, ve, vp] w fun r w' => ∃ v, r = .returned (.agg #[.int .i64 (opC k n e s), v]) ∧ Owx w' w.heap.size v (opB k n e s) ∧ Below w.heap.size w w' := by
  by_cases h : opOk k n e s = true
  · have Q := opOk_parts h
    by_cases ho : opens (kf k) n e s
    · obtain ⟨m, hm⟩ : ∃ m, s.length = m + 16 := ⟨s.length - 16, by have := ho.1; omega⟩
      have e1 : s.length - 16 = m := by omega
      rw [show opC k n e s = 0 by rw [opC, if_pos h, if_pos ho], show opB k n e s = hid1 (kf k) n (s.take m) by rw [opB, if_pos h, if_pos ho, e1]]
      have ho2 := ho.2
      rw [e1] at ho2
      exact sop_at vk vn ve vp k n e s _ 0 true w hk hn he hp h (.inl ⟨rfl, rfl⟩) (hid fun w v0 v1 v2 v3 r0 r1 r2 r3 => l3open_yes v0 v1 v2 v3 k n e s m w r0 r1 r2 r3 yk yn ye ys Q.1.1 Q.1.2.1 (by have := Q.1.2.2; omega) hm (by have := Q.2; omega) ho2)
    · rw [show opC k n e s = 9 by rw [opC, if_pos h, if_neg ho], show opB k n e s = [] by rw [opB, if_pos h, if_neg ho]]
      refine sop_at vk vn ve vp k n e s [] 9 false w hk hn he hp h (.inr ⟨rfl, rfl, rfl⟩) (hid fun w v0 v1 v2 v3 r0 r1 r2 r3 => ?_)
      by_cases hl : 16 ≤ s.length
      · obtain ⟨m, hm⟩ : ∃ m, s.length = m + 16 := ⟨s.length - 16, by omega⟩
        have e1 : s.length - 16 = m := by omega
        exact l3open_no v0 v1 v2 v3 k n e s m w r0 r1 r2 r3 yk yn ye ys Q.1.1 Q.1.2.1 (by have := Q.1.2.2; omega) hm (by have := Q.2; omega) (fun q => ho ⟨hl, by rw [e1]; exact q⟩)
      · obtain ⟨p4, c4, rfl, -, -, -⟩ := r3.parts
        exact (l3open_short v0 v1 v2 p4 c4 s.length w (by omega)).mono fun r w' ⟨h1, h2⟩ => ⟨_, h1, Own.nil _ _, by rw [h2]; exact Below.refl _ _⟩
  · rw [show opC k n e s = 2 by rw [opC, if_neg h], show opB k n e s = [] by rw [opB, if_neg h]]
    exact (sop_no vk vn ve vp k n e s w hk hn he hp (by simpa using h)).mono fun e w' ⟨he, hb⟩ => ⟨_, he, Owx.nil _ _, hb⟩
end Go.Proofs.Ytckgjghpfjinfab.W

namespace Go.Proofs.Ytckgjghpfjinfab.W
open Go.ChangeShapes Go.WideShapes Go.ChangeAt Go.RowKit
open Go.Proofs.Ytckgjghpfjinfab.M

theorem part_at (a : List Nat) (i : Nat) (h : i < a.length) (w : World) : (part 5 (arr a) (i * 1)).run Try.prog w = .ok (.int .u8 (gt a i : Nat)) w := by
  have h2 : (arr a)[i]? = some (.int .u8 (gt a i : Nat)) := arr_get a i h
  rw [Nat.mul_one]
  simp [part, h2, go_sem]
theorem eq_u8 (a b : Int) (w : World) : (Op.equalIn 9999 5 (.int .u8 a) (.int .u8 b)).run Try.prog w = .ok (a == b) w := run_equalIn_int w 9998 5 .u8 .u8 a b Try.underlying5
theorem one_u8 (w : World) : (sizeOf 5).run Try.prog w = .ok 1 w := by simp [go_sem]
theorem all_gt : ∀ (a b : List Nat), a.length = b.length → ((List.range a.length).all fun i => gt a i == gt b i) = (a == b)
  | [], [], _ => rfl
  | x :: a, y :: b, h => by
    have ih := all_gt a b (by simpa using h)
    rw [List.length_cons, List.range_succ_eq_map, List.all_cons, List.all_map]
    simp only [gt, List.getD_cons_zero, Function.comp_def, List.getD_cons_succ] at ih ⊢
    rw [ih]
    simp [List.cons_beq_cons]
  | [], _ :: _, h => by simp at h
  | _ :: _, [], h => by simp at h
theorem eq_blk (a b : List Nat) (ha : a.length = 16) (hb : b.length = 16) (w : World) : (Op.equalIn 10000 79 (.agg (arr a)) (.agg (arr b))).run Try.prog w = .ok (a == b) w := by
  have hu : Try.prog.underlying 79 = some (.array 16 5) := Try.underlying79
  rw [← all_gt a b (ha.trans hb.symm), ha, List.range_eq_range', Op.equalIn]
  simp only [Sem.run_bind, run_underlying hu, Result.andThen_ok, one_u8, Std.Legacy.Range.forIn_eq_forIn_range', Std.Legacy.Range.size, Nat.sub_zero, Nat.add_sub_cancel, Nat.div_one]
  have hl : ∀ i ∈ List.range' 0 16 1, i < 16 := fun i hi => by simpa using (List.mem_range'_1.1 hi).2
  generalize List.range' 0 16 1 = l at hl ⊢
  induction l with
  | nil => simp
  | cons i l ih =>
    have hi : i < 16 := hl i (by simp)
    have pe : (Op.equalIn 9999 5 (.int .u8 (gt a i : Nat)) (.int .u8 (gt b i : Nat))).run Try.prog w = .ok (gt a i == gt b i) w := by
      have e : (((gt a i : Nat) : Int) == ((gt b i : Nat) : Int)) = (gt a i == gt b i) := by
        rw [Bool.eq_iff_iff]
        simp only [beq_iff_eq]
        omega
      rw [eq_u8, e]
    simp only [List.forIn_cons, Sem.run_bind, part_at a i (by omega), part_at b i (by omega), pe, Result.andThen_ok, List.all_cons]
    cases hb : (gt a i == gt b i)
    · simp
    · simp only [Bool.not_true, Bool.false_eq_true, if_false, Sem.run_pure, Result.andThen_ok, Bool.true_and]
      exact ih fun j hj => hl j (by simp [hj])
theorem neq_blk (a b : List Nat) (ha : a.length = 16) (hb : b.length = 16) (w : World) : (binOp .neq 79 (.agg (arr a)) (.agg (arr b))).run Try.prog w = .ok (.bool (!(a == b))) w := by
  rw [run_neq_struct, eq_blk a b ha hb]
  rfl
theorem guard_blk : Try.prog.eqGuardType Try.prog.depth 79 = false := by kernel_rfl
end Go.Proofs.Ytckgjghpfjinfab.W
