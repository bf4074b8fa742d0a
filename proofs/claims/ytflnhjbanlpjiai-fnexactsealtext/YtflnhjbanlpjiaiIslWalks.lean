/-
  What is sealed: what the program's SealText answers.
-/
import Derived.Test.YtflnhjbanlpjiaiSlrWalks
import Derived.Test.YtflnhjbanlpjiaiHidWalks
import Derived.Test.YtflnhjbanlpjiaiFitWalks
import Derived.Test.YtflnhjbanlpjiaiAskF
namespace Go.Proofs.Ytflnhjbanlpjiai.W
open Go.ChangeShapes Go.WideShapes Go.ChangeAt Go.RowKit
open Go.Proofs.Ytflnhjbanlpjiai.M

set_option maxRecDepth 100000 in
theorem isl_no (vk vn ve vp : Value) (k n e p : List Nat) (w : World) (hk : Rd w vk k) (hn : Rd w vn n) (he : Rd w ve e) (hp : Rd w vp p) (h : slOk k n e p = false) :
    Calls Try.prog 18 #[vk, vn, ve, vp] w fun r w' => r = .returned (.agg #[.int .i64 2, .slice none 0 0]) ∧ Below w.heap.size w w' := by
  obtain ⟨p1, c1, rfl, -, -, -⟩ := hk.parts
  obtain ⟨p2, c2, rfl, -, -, -⟩ := hn.parts
  obtain ⟨p3, c3, rfl, -, -, -⟩ := he.parts
  obtain ⟨p4, c4, rfl, -, -, -⟩ := hp.parts
  clear hk hn he hp
  have V0 := hid (heap_alloc_new w (.cells #[.int .i64 0, .slice none 0 0] 24))
  have B0 := hid (below_alloc1 w (.cells #[.int .i64 0, .slice none 0 0] 24))
  by_cases ha : askd k n e = true
  · have A := hid ha
    have WI := hid (show inB (p.length : Int) 0 600 = false by
      simp only [slOk, ha, Bool.true_and, decide_eq_false_iff_not] at h
      unfold inB
      rw [decide_eq_false (by omega)])
    clear ha h
    go_enter Try.func18, Try.ntmps18
    go_wp2_with fail
    refine (sfits _ _ _ _ _ _ k n e _).mono ?_
    rintro r W ⟨rfl, hM⟩
    rw [A.out]
    replace V0 := hid (var_below hM V0.out)
    replace B0 := hid (B0.out.trans (hM.mono B0.out.size))
    clear hM
    go_wp2_with fail
    refine (within1 (p.length : Int) 0 600 W.heap.size _ (heap_alloc_new W _)).mono ?_
    rintro r w3 ⟨rfl, hM⟩
    rw [WI.out]
    replace hM := (below_alloc1 W (.cells #[.int .i64 (p.length : Int), .int .i64 0, .int .i64 600] 46)).trans (hM.mono (by simp))
    replace V0 := hid (var_below hM V0.out)
    replace B0 := hid (B0.out.trans (hM.mono B0.out.size))
    clear hM
    obtain ⟨f1, f2, f3, f4⟩ := var2_facts V0.out
    have hset := hid (var2_set (x' := .int .i64 2) (y' := .slice none 0 0) V0.out)
    have hbel := hid (below_set2 (x := .int .i64 2) (y := .slice none 0 0) B0.out (Nat.le_refl _))
    go_wp2
    exact bodyPost_ret (v := .agg #[.int .i64 2, .slice none 0 0]) (results_cell_row rfl _ _ w.heap.size 24 _ _ _ rfl hset.out Try.underlying24 rfl (by kernel_rfl)) rfl ⟨rfl, hbel.out⟩
  · have A := hid (show askd k n e = false by simpa using ha)
    clear ha h
    go_enter Try.func18, Try.ntmps18
    go_wp2_with fail
    refine (sfits _ _ _ _ _ _ k n e _).mono ?_
    rintro r W ⟨rfl, hM⟩
    rw [A.out]
    replace V0 := hid (var_below hM V0.out)
    replace B0 := hid (B0.out.trans (hM.mono B0.out.size))
    clear hM
    obtain ⟨f1, f2, f3, f4⟩ := var2_facts V0.out
    have hset := hid (var2_set (x' := .int .i64 2) (y' := .slice none 0 0) V0.out)
    have hbel := hid (below_set2 (x := .int .i64 2) (y := .slice none 0 0) B0.out (Nat.le_refl _))
    go_wp2
    exact bodyPost_ret (v := .agg #[.int .i64 2, .slice none 0 0]) (results_cell_row rfl _ _ w.heap.size 24 _ _ _ rfl hset.out Try.underlying24 rfl (by kernel_rfl)) rfl ⟨rfl, hbel.out⟩

set_option maxHeartbeats 2000000 in
set_option maxRecDepth 100000 in
theorem isl_ok (vk vn ve vp : Value) (k n e p : List Nat) (w : World) (hk : Rd w vk k) (hn : Rd w vn n) (he : Rd w ve e) (hp : Rd w vp p) (yk : Byt k) (yn : Byt n) (ye : Byt e) (yp : Byt p) (h : slOk k n e p = true) :
    Calls Try.prog 18 #[vk, vn, ve, vp] w fun r w' => ∃ v, r = .returned (.agg #[.int .i64 0, v]) ∧ Owx w' w.heap.size v (sld (kf k) n e p) ∧ Below w.heap.size w w' := by
  have Q := hid (slOk_parts h)
  have A := hid (show askd k n e = true by simp only [slOk, Bool.and_eq_true] at h; exact h.1)
  obtain ⟨b1, o1, c1, e1, -, -⟩ := hk.spot (by have := Q.out.1.1; omega)
  obtain ⟨b2, o2, c2, e2, -, -⟩ := hn.spot (by have := Q.out.1.2.1; omega)
  obtain ⟨p3, c3, rfl, -, -, -⟩ := he.parts
  obtain ⟨p4, c4, rfl, -, -, -⟩ := hp.parts
  subst e1 e2
  have WI := hid (show inB (p.length : Int) 0 600 = true by unfold inB; rw [decide_eq_true (by have := Q.out.2; omega)])
  have HK := hid hk
  have HN := hid hn
  have HE := hid he
  have HP := hid hp
  have V0 := hid (heap_alloc_new w (.cells #[.int .i64 0, .slice none 0 0] 24))
  have B0 := hid (below_alloc1 w (.cells #[.int .i64 0, .slice none 0 0] 24))
  have ZK := hid (key_size k Q.out.1.1)
  have ZN := hid (show (Try.prog.info? 57).map (·.size) = some (arr n).size by rw [arr_size, Q.out.1.2.1]; kernel_rfl)
  have RK := hid (rd_range hk)
  have RN := hid (rd_range hn)
  have JL := hid (jb_len n Q.out.1.2.1)
  have HF := hid (kf_lt k yk)
  clear hk hn he hp h
  go_enter Try.func18, Try.ntmps18
  go_wp2_with fail
  refine (sfits _ _ _ _ _ _ k n e _).mono ?_
  rintro r W ⟨rfl, hM⟩
  rw [A.out]
  replace V0 := hid (var_below hM V0.out)
  replace B0 := hid (B0.out.trans (hM.mono B0.out.size))
  clear hM
  go_wp2_with fail
  refine (within1 (p.length : Int) 0 600 W.heap.size _ (heap_alloc_new W _)).mono ?_
  rintro r w3 ⟨rfl, hM⟩
  rw [WI.out]
  replace hM := (below_alloc1 W (.cells #[.int .i64 (p.length : Int), .int .i64 0, .int .i64 600] 46)).trans (hM.mono (by simp))
  replace V0 := hid (var_below hM V0.out)
  replace B0 := hid (B0.out.trans (hM.mono B0.out.size))
  clear hM
  have P1 := arr_at 38 5 16 Try.underlying38 (some ⟨b1, o1, none⟩) k.length c1 (by rw [Q.out.1.1]; omega)
  have P2 := arr_at 57 5 12 Try.underlying57 (some ⟨b2, o2, none⟩) n.length c2 (by rw [Q.out.1.2.1]; omega)
  go_wp2_with fail
  have V1 : w3.drew.heap[w.heap.size]? = some (.cells #[.int .i64 0, .slice none 0 0] 24) := V0.out
  refine wp_region_held_drew (S := fun w' => Below w.heap.size w w') (by kernel_rfl) B0.out.drew (fun hH => ?_)
  refine wpAnyH_take (i := 0) (v := .slice (some ⟨b1, o1, none⟩) k.length c1) (by simp only [List.getElem?_toArray, List.getElem?_cons_zero]; rfl) (by kernel_rfl) (by kernel_rfl) (by kernel_rfl) (by intro _ _ _ h; exact h) (Or.inl ⟨by rfl, fun w hS => by go_simp⟩) hH ?_
  simp only [Act.put, List.setIfInBounds_toArray, List.set_cons_zero, List.set_cons_succ]
  refine wpAnyH_take (i := 1) (v := .pointer (some ⟨b1, o1, none⟩)) (by simp only [List.getElem?_toArray, List.getElem?_cons_succ, List.getElem?_cons_zero]; rfl) (by kernel_rfl) (by kernel_rfl) (by kernel_rfl) (by intro _ _ _ h; exact h) (Or.inl ⟨by rfl, fun w hS => by go_simp⟩) hH ?_
  simp only [Act.put, List.setIfInBounds_toArray, List.set_cons_zero, List.set_cons_succ]
  refine wpAnyH_take (i := 2) (v := .agg (arr k)) (by simp only [List.getElem?_toArray, List.getElem?_cons_succ, List.getElem?_cons_zero]; rfl) (by kernel_rfl) (by kernel_rfl) (by kernel_rfl) (by intro _ _ _ h; exact h) (yieldsIf_load_mid (by rfl) _ _ rfl b1 o1 rfl (k.map bv) _ (fun w hS => rangeAt.below RK.out hS) Try.underlying38 rfl (by rw [List.length_map, ← arr_size]; exact ZK.out)) hH ?_
  simp only [Act.put, List.setIfInBounds_toArray, List.set_cons_zero, List.set_cons_succ]
  refine wpAnyH_take (i := 3) (v := .slice (some ⟨b2, o2, none⟩) n.length c2) (by simp only [List.getElem?_toArray, List.getElem?_cons_succ, List.getElem?_cons_zero]; rfl) (by kernel_rfl) (by kernel_rfl) (by kernel_rfl) (by intro _ _ _ h; exact h) (Or.inl ⟨by rfl, fun w hS => by go_simp⟩) hH ?_
  simp only [Act.put, List.setIfInBounds_toArray, List.set_cons_zero, List.set_cons_succ]
  refine wpAnyH_take (i := 4) (v := .pointer (some ⟨b2, o2, none⟩)) (by simp only [List.getElem?_toArray, List.getElem?_cons_succ, List.getElem?_cons_zero]; rfl) (by kernel_rfl) (by kernel_rfl) (by kernel_rfl) (by intro _ _ _ h; exact h) (Or.inl ⟨by rfl, fun w hS => by go_simp⟩) hH ?_
  simp only [Act.put, List.setIfInBounds_toArray, List.set_cons_zero, List.set_cons_succ]
  refine wpAnyH_take (i := 5) (v := .agg (arr n)) (by simp only [List.getElem?_toArray, List.getElem?_cons_succ, List.getElem?_cons_zero]; rfl) (by kernel_rfl) (by kernel_rfl) (by kernel_rfl) (by intro _ _ _ h; exact h) (yieldsIf_load_mid (by rfl) _ _ rfl b2 o2 rfl (n.map bv) _ (fun w hS => rangeAt.below RN.out hS) Try.underlying57 rfl (by rw [List.length_map, ← arr_size]; exact ZN.out)) hH ?_
  simp only [Act.put, List.setIfInBounds_toArray, List.set_cons_zero, List.set_cons_succ]
  generalize w3.drew = x at hH V1 ⊢
  refine wpAnyH_ready (rs := [6, 7]) (by kernel_rfl) (by simp) ?_
  refine AllReadyH.cons (by simp only [List.getElem?_toArray, List.getElem?_cons_succ, List.getElem?_cons_zero]; rfl) (fun K hK => ?_) ?_
  · go_simp
    refine (sealerof k n _ Q.out.1.1 Q.out.1.2.1 yk).mono ?_
    rintro r x6 ⟨g, rfl, C, hg, hM⟩
    refine hK.out _ _ (hH.trans (hM.mono hH.size)) (fun hH => ?_)
    clear hK K
    replace V1 := var_below hM V1
    have hg2 := hg
    clear hM
    have hcl := C.lt
    refine wpAnyH_ready (rs := [7]) (by kernel_rfl) (by simp) ?_
    refine AllReadyH.cons (by simp only [List.getElem?_toArray, List.getElem?_cons_succ, List.getElem?_cons_zero]; rfl) (fun K hK => ?_) AllReadyH.nil
    have F9 := heap_alloc_new x6 (.cells #[.pointer none, .int .u64 0, .int .u64 0, .int .u8 0, .int .u8 0, .int .u8 0, .int .u8 0, .int .u8 0, .int .u8 0, .int .u8 0, .int .u8 0, .int .u8 0, .int .u8 0, .int .u8 0, .int .u8 0, .int .u8 0, .int .u8 0, .int .u8 0, .int .u8 0] 55)
    have hs9 := var_lt V1
    have hz := hH.size
    replace V1 := var_alloc (.cells #[.pointer none, .int .u64 0, .int .u64 0, .int .u8 0, .int .u8 0, .int .u8 0, .int .u8 0, .int .u8 0, .int .u8 0, .int .u8 0, .int .u8 0, .int .u8 0, .int .u8 0, .int .u8 0, .int .u8 0, .int .u8 0, .int .u8 0, .int .u8 0, .int .u8 0] 55) V1
    replace C := C.alloc (.cells #[.pointer none, .int .u64 0, .int .u64 0, .int .u8 0, .int .u8 0, .int .u8 0, .int .u8 0, .int .u8 0, .int .u8 0, .int .u8 0, .int .u8 0, .int .u8 0, .int .u8 0, .int .u8 0, .int .u8 0, .int .u8 0, .int .u8 0, .int .u8 0, .int .u8 0] 55)
    go_simp
    refine hK.out _ _ (hH.alloc hH.size _) (fun hH => ?_)
    clear hK K
    have hne : g ≠ x6.heap.size := by omega
    refine wpAnyH_ready (rs := [8]) (by kernel_rfl) (by simp) ?_
    refine AllReadyH.cons (by simp only [List.getElem?_toArray, List.getElem?_cons_succ, List.getElem?_cons_zero]; rfl) (fun K hK => ?_) AllReadyH.nil
    refine step_store_row (by rfl) _ _ _ (by rfl) (x6.heap.size) (sc g (elt (enc (kf k) (zs 16))) (jb n)) (by rfl) (by rfl) 55 _ F9 (sc_info _ _ _ JL.out) (zsc_old _ _ _ JL.out) (sc_one _ _ _) ?_
    have g9l := hid (show w.heap.size < x6.heap.size by have := hs9; omega)
    have BY := hid (below_row hH (g := x6.heap.size) (by omega) (sc g (elt (enc (kf k) (zs 16))) (jb n)))
    refine hK.out _ _ BY.out (fun _ => ?_)
    clear hK K
    simp only [Act.put]
    have SY := hid (show Sv _ _ _ _ _ from setRow_heap _ (x6.heap.size) _ (sc g (elt (enc (kf k) (zs 16))) (jb n)) _ _ F9)
    have CY := hid (C.rowFar (g' := x6.heap.size) (sc g (elt (enc (kf k) (zs 16))) (jb n)) (by omega))
    have VY := hid ((setRow_other (x6.alloc (.cells #[.pointer none, .int .u64 0, .int .u64 0, .int .u8 0, .int .u8 0, .int .u8 0, .int .u8 0, .int .u8 0, .int .u8 0, .int .u8 0, .int .u8 0, .int .u8 0, .int .u8 0, .int .u8 0, .int .u8 0, .int .u8 0, .int .u8 0, .int .u8 0, .int .u8 0] 55)) (x6.heap.size) w.heap.size (sc g (elt (enc (kf k) (zs 16))) (jb n)) (by omega)).trans V1)
    generalize hg9 : x6.heap.size = g9 at *
    generalize (x6.alloc (.cells #[.pointer none, .int .u64 0, .int .u64 0, .int .u8 0, .int .u8 0, .int .u8 0, .int .u8 0, .int .u8 0, .int .u8 0, .int .u8 0, .int .u8 0, .int .u8 0, .int .u8 0, .int .u8 0, .int .u8 0, .int .u8 0, .int .u8 0, .int .u8 0, .int .u8 0] 55)).setRow g9 (sc g (elt (enc (kf k) (zs 16))) (jb n)) = y at *
    clear F9 V1 C hH hs9 hg9
    refine wpAnyH_done (by kernel_rfl) ?_ _
    go_wp2_with (refine wpList_load_row rfl 55 _ rfl g9 rfl 55 (sc g (elt (enc (kf k) (zs 16))) (jb n)) _ _ SY.out Try.underlying55 rfl (sc_info _ _ _ JL.out) ?_)
    refine (ihide g _ n _ p (kf k) _ CY.out HF.out Q.out.1.2.1 yn (HP.out.below BY.out) yp (by have := Q.out.2; omega)).mono ?_
    rintro r y1 ⟨v1, rfl, O1, hM⟩
    have ZY := hid (show w.heap.size < y.heap.size from var_lt VY.out)
    have VZ := hid (var_below hM VY.out)
    have SZ := hid (SY.out.below hM)
    have CZ := hid (CY.out.below hM)
    have BZ := hid (BY.out.trans (hM.mono BY.out.size))
    replace O1 := hid O1
    have Z1 := hid hM.size
    clear hM VY SY CY BY
    have HL := hid (show (hid1 (kf k) n p).length = p.length from strm_len _ _ _)
    go_wp2_with (refine wpList_load_row rfl 55 _ rfl g9 rfl 55 (sc g (elt (enc (kf k) (zs 16))) (jb n)) _ _ SZ.out Try.underlying55 rfl (sc_info _ _ _ JL.out) ?_)
    refine (itag g n _ _ e (hid1 (kf k) n p) (kf k) _ CZ.out HF.out Q.out.1.2.1 yn (HE.out.below BZ.out) O1.out.rd ye (strm_byt _ HF.out _ _ (cu_byt _ (jb_byt n yn)) yp) (by have := Q.out.1.2.2; omega) (by rw [HL.out]; have := Q.out.2; omega)).mono ?_
    rintro r y2 ⟨rfl, hM⟩
    have TL := hid (tg_len (kf k) n e (hid1 (kf k) n p) Q.out.1.2.1)
    have ZT := hid (blk_size (tg (kf k) n e (hid1 (kf k) n p)) TL.out)
    have T7 := hid (show Ar _ _ 39 (zs 16) from heap_alloc_new y2 (.cells #[.int .u8 0, .int .u8 0, .int .u8 0, .int .u8 0, .int .u8 0, .int .u8 0, .int .u8 0, .int .u8 0, .int .u8 0, .int .u8 0, .int .u8 0, .int .u8 0, .int .u8 0, .int .u8 0, .int .u8 0, .int .u8 0] 39))
    have T8 := hid (T7.out.row (l' := tg (kf k) n e (hid1 (kf k) n p)))
    have hN := below_row (below_alloc1 y2 (.cells #[.int .u8 0, .int .u8 0, .int .u8 0, .int .u8 0, .int .u8 0, .int .u8 0, .int .u8 0, .int .u8 0, .int .u8 0, .int .u8 0, .int .u8 0, .int .u8 0, .int .u8 0, .int .u8 0, .int .u8 0, .int .u8 0] 39)) (g := y2.heap.size) (Nat.le_refl _) (arr (tg (kf k) n e (hid1 (kf k) n p)))
    have O3 := hid ((O1.out.below hM).below hN)
    have V3 := hid (var_below hN (var_below hM VZ.out))
    have B3 := hid ((BZ.out.trans (hM.mono BZ.out.size)).trans (hN.mono (Nat.le_trans BZ.out.size hM.size)))
    have Z3 := hid (Nat.le_trans Z1.out (Nat.le_trans hM.size hN.size))
    clear hM hN VZ SZ CZ BZ O1
    have HT := hid (show sld (kf k) n e p = hid1 (kf k) n p ++ tg (kf k) n e (hid1 (kf k) n p) from rfl)
    generalize tg (kf k) n e (hid1 (kf k) n p) = tag at *
    have CB := cut_blk y2.heap.size
    have R3 := hid ((Owx.ofAr (base := 0) (n := 16) T8.out TL.out (Nat.zero_le _) (by unfold maxLen; omega)).rd)
    go_wp2_with (first | (refine wpList_store_row rfl 39 _ _ rfl y2.heap.size (arr tag) rfl rfl 39 _ T7.out ZT.out (by rw [arr_size, arr_size, zs_len, TL.out]) (arr_one _) ?_; generalize ((y2.alloc (.cells #[.int .u8 0, .int .u8 0, .int .u8 0, .int .u8 0, .int .u8 0, .int .u8 0, .int .u8 0, .int .u8 0, .int .u8 0, .int .u8 0, .int .u8 0, .int .u8 0, .int .u8 0, .int .u8 0, .int .u8 0, .int .u8 0] 39)).setRow y2.heap.size (arr tag)) = Y at *) | (at_builtin; refine list_app rfl _ _ rfl _ _ (hid1 (kf k) n p) tag y.heap.size rfl rfl O3.out R3.out (by rw [HL.out, TL.out]; have := Q.out.2; omega) Z3.out ?_; intro v4 y4 O4 G4; have V4 := var_grown G4 V3.out (O3.out.ne ZY.out); have B4 := B3.out.grown G4 B3.out.size (O3.out.row (Nat.le_of_lt ZY.out)); obtain ⟨f1, f2, f3, f4⟩ := var2_facts V4; obtain ⟨q4, d4, e4, -, -, -⟩ := O4.rd.parts; generalize (hid1 (kf k) n p ++ tag).length = m4 at e4; subst e4; have hset := hid (var2_set (x' := .int .i64 0) (y' := .slice q4 m4 d4) V4); have hbel := hid (below_set2 (x := .int .i64 0) (y := .slice q4 m4 d4) B4 (Nat.le_refl _)); have hown := hid ((O4.set2 (g := w.heap.size) (x := .int .i64 0) (y := .slice q4 m4 d4) ZY.out).mono (base' := w.heap.size) (Nat.le_of_lt ZY.out)).x; clear V4 B4 O4 G4))
    exact bodyPost_ret (v := .agg #[.int .i64 0, .slice q4 m4 d4]) (results_cell_row rfl _ _ w.heap.size 24 _ _ _ rfl hset.out Try.underlying24 rfl (by kernel_rfl)) rfl ⟨_, rfl, by rw [HT.out]; exact hown.out, hbel.out⟩
  refine AllReadyH.cons (by simp only [List.getElem?_toArray, List.getElem?_cons_succ, List.getElem?_cons_zero]; rfl) (fun K hK => ?_) ?_
  · have F9 := heap_alloc_new x (.cells #[.pointer none, .int .u64 0, .int .u64 0, .int .u8 0, .int .u8 0, .int .u8 0, .int .u8 0, .int .u8 0, .int .u8 0, .int .u8 0, .int .u8 0, .int .u8 0, .int .u8 0, .int .u8 0, .int .u8 0, .int .u8 0, .int .u8 0, .int .u8 0, .int .u8 0] 55)
    have hs9 := var_lt V1
    have hz := hH.size
    replace V1 := var_alloc (.cells #[.pointer none, .int .u64 0, .int .u64 0, .int .u8 0, .int .u8 0, .int .u8 0, .int .u8 0, .int .u8 0, .int .u8 0, .int .u8 0, .int .u8 0, .int .u8 0, .int .u8 0, .int .u8 0, .int .u8 0, .int .u8 0, .int .u8 0, .int .u8 0, .int .u8 0] 55) V1
    go_simp
    refine hK.out _ _ (hH.alloc hH.size _) (fun hH => ?_)
    clear hK K
    have hsx : (x.alloc (.cells #[.pointer none, .int .u64 0, .int .u64 0, .int .u8 0, .int .u8 0, .int .u8 0, .int .u8 0, .int .u8 0, .int .u8 0, .int .u8 0, .int .u8 0, .int .u8 0, .int .u8 0, .int .u8 0, .int .u8 0, .int .u8 0, .int .u8 0, .int .u8 0, .int .u8 0] 55)).heap.size = x.heap.size + 1 := by simp
    refine wpAnyH_ready (rs := [6]) (by kernel_rfl) (by simp) ?_
    refine AllReadyH.cons (by simp only [List.getElem?_toArray, List.getElem?_cons_succ, List.getElem?_cons_zero]; rfl) (fun K hK => ?_) AllReadyH.nil
    go_simp
    refine (sealerof k n _ Q.out.1.1 Q.out.1.2.1 yk).mono ?_
    rintro r x6 ⟨g, rfl, C, hg, hM⟩
    refine hK.out _ _ (hH.trans (hM.mono hH.size)) (fun hH => ?_)
    clear hK K
    replace V1 := var_below hM V1
    replace F9 := var_below hM F9
    clear hM
    have hne : g ≠ x.heap.size := by omega
    refine wpAnyH_ready (rs := [8]) (by kernel_rfl) (by simp) ?_
    refine AllReadyH.cons (by simp only [List.getElem?_toArray, List.getElem?_cons_succ, List.getElem?_cons_zero]; rfl) (fun K hK => ?_) AllReadyH.nil
    refine step_store_row (by rfl) _ _ _ (by rfl) (x.heap.size) (sc g (elt (enc (kf k) (zs 16))) (jb n)) (by rfl) (by rfl) 55 _ F9 (sc_info _ _ _ JL.out) (zsc_old _ _ _ JL.out) (sc_one _ _ _) ?_
    have g9l := hid (show w.heap.size < x.heap.size by have := hs9; omega)
    have BY := hid (below_row hH (g := x.heap.size) (by omega) (sc g (elt (enc (kf k) (zs 16))) (jb n)))
    refine hK.out _ _ BY.out (fun _ => ?_)
    clear hK K
    simp only [Act.put]
    have SY := hid (show Sv _ _ _ _ _ from setRow_heap _ (x.heap.size) _ (sc g (elt (enc (kf k) (zs 16))) (jb n)) _ _ F9)
    have CY := hid (C.rowFar (g' := x.heap.size) (sc g (elt (enc (kf k) (zs 16))) (jb n)) (by omega))
    have VY := hid ((setRow_other x6 (x.heap.size) w.heap.size (sc g (elt (enc (kf k) (zs 16))) (jb n)) (by omega)).trans V1)
    generalize hg9 : x.heap.size = g9 at *
    generalize x6.setRow g9 (sc g (elt (enc (kf k) (zs 16))) (jb n)) = y at *
    clear F9 V1 C hH hs9 hg9
    refine wpAnyH_done (by kernel_rfl) ?_ _
    go_wp2_with (refine wpList_load_row rfl 55 _ rfl g9 rfl 55 (sc g (elt (enc (kf k) (zs 16))) (jb n)) _ _ SY.out Try.underlying55 rfl (sc_info _ _ _ JL.out) ?_)
    refine (ihide g _ n _ p (kf k) _ CY.out HF.out Q.out.1.2.1 yn (HP.out.below BY.out) yp (by have := Q.out.2; omega)).mono ?_
    rintro r y1 ⟨v1, rfl, O1, hM⟩
    have ZY := hid (show w.heap.size < y.heap.size from var_lt VY.out)
    have VZ := hid (var_below hM VY.out)
    have SZ := hid (SY.out.below hM)
    have CZ := hid (CY.out.below hM)
    have BZ := hid (BY.out.trans (hM.mono BY.out.size))
    replace O1 := hid O1
    have Z1 := hid hM.size
    clear hM VY SY CY BY
    have HL := hid (show (hid1 (kf k) n p).length = p.length from strm_len _ _ _)
    go_wp2_with (refine wpList_load_row rfl 55 _ rfl g9 rfl 55 (sc g (elt (enc (kf k) (zs 16))) (jb n)) _ _ SZ.out Try.underlying55 rfl (sc_info _ _ _ JL.out) ?_)
    refine (itag g n _ _ e (hid1 (kf k) n p) (kf k) _ CZ.out HF.out Q.out.1.2.1 yn (HE.out.below BZ.out) O1.out.rd ye (strm_byt _ HF.out _ _ (cu_byt _ (jb_byt n yn)) yp) (by have := Q.out.1.2.2; omega) (by rw [HL.out]; have := Q.out.2; omega)).mono ?_
    rintro r y2 ⟨rfl, hM⟩
    have TL := hid (tg_len (kf k) n e (hid1 (kf k) n p) Q.out.1.2.1)
    have ZT := hid (blk_size (tg (kf k) n e (hid1 (kf k) n p)) TL.out)
    have T7 := hid (show Ar _ _ 39 (zs 16) from heap_alloc_new y2 (.cells #[.int .u8 0, .int .u8 0, .int .u8 0, .int .u8 0, .int .u8 0, .int .u8 0, .int .u8 0, .int .u8 0, .int .u8 0, .int .u8 0, .int .u8 0, .int .u8 0, .int .u8 0, .int .u8 0, .int .u8 0, .int .u8 0] 39))
    have T8 := hid (T7.out.row (l' := tg (kf k) n e (hid1 (kf k) n p)))
    have hN := below_row (below_alloc1 y2 (.cells #[.int .u8 0, .int .u8 0, .int .u8 0, .int .u8 0, .int .u8 0, .int .u8 0, .int .u8 0, .int .u8 0, .int .u8 0, .int .u8 0, .int .u8 0, .int .u8 0, .int .u8 0, .int .u8 0, .int .u8 0, .int .u8 0] 39)) (g := y2.heap.size) (Nat.le_refl _) (arr (tg (kf k) n e (hid1 (kf k) n p)))
    have O3 := hid ((O1.out.below hM).below hN)
    have V3 := hid (var_below hN (var_below hM VZ.out))
    have B3 := hid ((BZ.out.trans (hM.mono BZ.out.size)).trans (hN.mono (Nat.le_trans BZ.out.size hM.size)))
    have Z3 := hid (Nat.le_trans Z1.out (Nat.le_trans hM.size hN.size))
    clear hM hN VZ SZ CZ BZ O1
    have HT := hid (show sld (kf k) n e p = hid1 (kf k) n p ++ tg (kf k) n e (hid1 (kf k) n p) from rfl)
    generalize tg (kf k) n e (hid1 (kf k) n p) = tag at *
    have CB := cut_blk y2.heap.size
    have R3 := hid ((Owx.ofAr (base := 0) (n := 16) T8.out TL.out (Nat.zero_le _) (by unfold maxLen; omega)).rd)
    go_wp2_with (first | (refine wpList_store_row rfl 39 _ _ rfl y2.heap.size (arr tag) rfl rfl 39 _ T7.out ZT.out (by rw [arr_size, arr_size, zs_len, TL.out]) (arr_one _) ?_; generalize ((y2.alloc (.cells #[.int .u8 0, .int .u8 0, .int .u8 0, .int .u8 0, .int .u8 0, .int .u8 0, .int .u8 0, .int .u8 0, .int .u8 0, .int .u8 0, .int .u8 0, .int .u8 0, .int .u8 0, .int .u8 0, .int .u8 0, .int .u8 0] 39)).setRow y2.heap.size (arr tag)) = Y at *) | (at_builtin; refine list_app rfl _ _ rfl _ _ (hid1 (kf k) n p) tag y.heap.size rfl rfl O3.out R3.out (by rw [HL.out, TL.out]; have := Q.out.2; omega) Z3.out ?_; intro v4 y4 O4 G4; have V4 := var_grown G4 V3.out (O3.out.ne ZY.out); have B4 := B3.out.grown G4 B3.out.size (O3.out.row (Nat.le_of_lt ZY.out)); obtain ⟨f1, f2, f3, f4⟩ := var2_facts V4; obtain ⟨q4, d4, e4, -, -, -⟩ := O4.rd.parts; generalize (hid1 (kf k) n p ++ tag).length = m4 at e4; subst e4; have hset := hid (var2_set (x' := .int .i64 0) (y' := .slice q4 m4 d4) V4); have hbel := hid (below_set2 (x := .int .i64 0) (y := .slice q4 m4 d4) B4 (Nat.le_refl _)); have hown := hid ((O4.set2 (g := w.heap.size) (x := .int .i64 0) (y := .slice q4 m4 d4) ZY.out).mono (base' := w.heap.size) (Nat.le_of_lt ZY.out)).x; clear V4 B4 O4 G4))
    exact bodyPost_ret (v := .agg #[.int .i64 0, .slice q4 m4 d4]) (results_cell_row rfl _ _ w.heap.size 24 _ _ _ rfl hset.out Try.underlying24 rfl (by kernel_rfl)) rfl ⟨_, rfl, by rw [HT.out]; exact hown.out, hbel.out⟩
  exact AllReadyH.nil

theorem isl (vk vn ve vp : Value) (k n e p : List Nat) (w : World) (hk : Rd w vk k) (hn : Rd w vn n) (he : Rd w ve e) (hp : Rd w vp p) (yk : Byt k) (yn : Byt n) (ye : Byt e) (yp : Byt p) :
    Calls Try.prog 18 #[vk, vn, ve, vp] w fun r w' => ∃ v, r = .returned (.agg #[.int .i64 (slC k n e p), v]) ∧ Owx w' w.heap.size v (slB k n e p) ∧ Below w.heap.size w w' := by
  by_cases h : slOk k n e p = true
  · rw [show slC k n e p = 0 by rw [slC, if_pos h], show slB k n e p = sld (kf k) n e p by rw [slB, if_pos h]]
    exact isl_ok vk vn ve vp k n e p w hk hn he hp yk yn ye yp h
  · rw [show slC k n e p = 2 by rw [slC, if_neg h], show slB k n e p = [] by rw [slB, if_neg h]]
    exact (isl_no vk vn ve vp k n e p w hk hn he hp (by simpa using h)).mono fun e w' ⟨he, hb⟩ => ⟨_, he, Owx.nil _ _, hb⟩
end Go.Proofs.Ytflnhjbanlpjiai.W
