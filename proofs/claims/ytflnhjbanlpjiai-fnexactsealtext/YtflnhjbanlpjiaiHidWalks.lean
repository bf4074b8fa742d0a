/-
  What a sealer hides, and its tag: the program's hide, tagOf.
-/
import Derived.Test.YtflnhjbanlpjiaiSlrM
import Derived.Test.YtflnhjbanlpjiaiEncWalks
import Derived.Test.YtflnhjbanlpjiaiStmWalks
import Derived.Test.YtflnhjbanlpjiaiAwhWalks
import Derived.Test.YtflnhjbanlpjiaiHashofWalks
import Derived.Test.YtflnhjbanlpjiaiAddmWalks
namespace Go.Proofs.Ytflnhjbanlpjiai.W
open Go.ChangeShapes Go.WideShapes Go.ChangeAt Go.RowKit
open Go.Proofs.Ytflnhjbanlpjiai.M

set_option maxHeartbeats 1000000 in
set_option maxRecDepth 100000 in
theorem ihide (gc : Nat) (h : Nat × Nat) (n : List Nat) (vd : Value) (d : List Nat) (F : Nat → Nat) (w : World) (hC : Ar w gc 73 (cph F 176)) (hF : ∀ j, F j < 256) (hn : n.length = 12) (yn : Byt n) (hd : Rd w vd d) (yd : Byt d) (nd : d.length ≤ 1048576) :
    Calls Try.prog 39 #[.agg (sc gc h (jb n)), vd] w fun e w' => ∃ v, e = .returned v ∧ Own w' w.heap.size v (hid1 F n d) ∧ Below w.heap.size w w' := by
  obtain ⟨pd, capd, rfl, -, -, -⟩ := hd.parts
  have HC := hid hC
  have HF := hid hF
  have HD := hid hd
  have JL := hid (jb_len n hn)
  have JY := hid (jb_byt n yn)
  have ZB := hid (blk_size (jb n) JL.out)
  have S0 := hid (show Sv _ _ _ _ _ from heap_alloc_new w (.cells (sc gc h (jb n)) 55))
  have B0 := below_alloc1 w (.cells (sc gc h (jb n)) 55)
  have CL := hid hC.lt
  clear hC hF hd hn
  go_enter Try.func39, Try.ntmps39
  go_wp2_with fail
  generalize w.alloc (.cells (sc gc h (jb n)) 55) = W at *
  refine wp_region_held_drew (S := fun w' => Below w.heap.size w w' ∧ Sv w' w.heap.size gc h (jb n)) (by kernel_rfl) ⟨B0.drew, S0.out⟩ (fun hH => ?_)
  refine wpAnyH_take (i := 0) (v := .pointer (some ⟨w.heap.size, 0, none⟩)) (by simp only [List.getElem?_toArray, List.getElem?_cons_zero]; rfl) (by kernel_rfl) (by kernel_rfl) (by kernel_rfl) (by intro _ _ _ h; exact h) (Or.inl ⟨by rfl, fun w hS => by go_simp⟩) hH ?_
  simp only [Act.put, List.setIfInBounds_toArray, List.set_cons_zero, List.set_cons_succ]
  refine wpAnyH_take (i := 1) (v := .pointer (some ⟨gc, 0, none⟩)) (by simp only [List.getElem?_toArray, List.getElem?_cons_succ, List.getElem?_cons_zero]; rfl) (by kernel_rfl) (by kernel_rfl) (by kernel_rfl) (by intro _ _ _ h; exact h) (Or.inl ⟨by rfl, fun w hS => by have c := hS.2.c0; go_simp⟩) hH ?_
  simp only [Act.put, List.setIfInBounds_toArray, List.set_cons_zero, List.set_cons_succ]
  refine wpAnyH_take (i := 2) (v := .pointer (some ⟨w.heap.size, 3, none⟩)) (by simp only [List.getElem?_toArray, List.getElem?_cons_succ, List.getElem?_cons_zero]; rfl) (by kernel_rfl) (by kernel_rfl) (by kernel_rfl) (by intro _ _ _ h; exact h) (Or.inl ⟨by rfl, fun w hS => by go_simp⟩) hH ?_
  simp only [Act.put, List.setIfInBounds_toArray, List.set_cons_zero, List.set_cons_succ]
  refine wpAnyH_take (i := 3) (v := .agg (arr (jb n))) (by simp only [List.getElem?_toArray, List.getElem?_cons_succ, List.getElem?_cons_zero]; rfl) (by kernel_rfl) (by kernel_rfl) (by kernel_rfl) (by intro _ _ _ h; exact h) (yieldsIf_load_mid (by rfl) _ _ rfl w.heap.size 3 rfl ((jb n).map bv) _ (fun w hS => hS.2.range) Try.underlying39 rfl (by rw [List.length_map, ← arr_size]; exact ZB.out)) hH ?_
  simp only [Act.put, List.setIfInBounds_toArray, List.set_cons_zero, List.set_cons_succ]
  refine wpAnyH_take (i := 5) (v := .slice pd d.length capd) (by simp only [List.getElem?_toArray, List.getElem?_cons_succ, List.getElem?_cons_zero]; rfl) (by kernel_rfl) (by kernel_rfl) (by kernel_rfl) (by intro _ _ _ h; exact h) (Or.inl ⟨by rfl, fun w hS => by go_simp⟩) hH ?_
  simp only [Act.put, List.setIfInBounds_toArray, List.set_cons_zero, List.set_cons_succ]
  generalize W.drew = x at hH ⊢
  refine wpAnyH_ready (rs := [4]) (by kernel_rfl) (by simp) ?_
  refine AllReadyH.cons (by simp only [List.getElem?_toArray, List.getElem?_cons_succ, List.getElem?_cons_zero]; rfl) (fun K hK => ?_) AllReadyH.nil
  go_simp
  refine (counted (jb n) _ JL.out JY.out).mono ?_
  rintro e x4 ⟨rfl, hM⟩
  refine hK.out _ _ ⟨hH.1.trans (hM.mono hH.1.size), hH.2.below hM⟩ (fun hH => ?_)
  clear hK K hM
  refine wpAnyH_ready (rs := [6]) (by kernel_rfl) (by simp) ?_
  refine AllReadyH.cons (by simp only [List.getElem?_toArray, List.getElem?_cons_succ, List.getElem?_cons_zero]; rfl) (fun K hK => ?_) AllReadyH.nil
  go_simp
  refine (istream gc (cu (jb n)) _ d F _ (HC.out.keep hH.1 CL.out) HF.out (cu_len _ JL.out) (cu_byt _ JY.out) (HD.out.below hH.1) yd nd).mono ?_
  rintro e x6 ⟨rfl, O, hM⟩
  have O2 := hid (O.mono (base' := w.heap.size) hH.1.size)
  refine hK.out _ _ ⟨hH.1.trans (hM.mono hH.1.size), hH.2.below hM⟩ (fun hH => ?_)
  clear hK K hM O
  refine wpAnyH_ready (rs := [7]) (by kernel_rfl) (by simp) ?_
  refine AllReadyH.cons (by simp only [List.getElem?_toArray, List.getElem?_cons_succ, List.getElem?_cons_zero]; rfl) (fun K hK => ?_) AllReadyH.nil
  go_simp
  refine hK.out _ _ hH (fun hH => ?_)
  clear hK K
  refine wpAnyH_done (by kernel_rfl) ?_ _
  go_wp2
  go_ret
  exact ⟨_, rfl, O2.out, hH.1⟩

set_option maxHeartbeats 2000000 in
set_option maxRecDepth 100000 in
theorem itag (gc : Nat) (n : List Nat) (ve vc : Value) (e c : List Nat) (F : Nat → Nat) (w : World) (hC : Ar w gc 73 (cph F 176)) (hF : ∀ j, F j < 256) (hn : n.length = 12) (yn : Byt n) (he : Rd w ve e) (hc : Rd w vc c) (ye : Byt e) (yc : Byt c) (ne : e.length ≤ 101) (nc : c.length ≤ 700) :
    Calls Try.prog 40 #[.agg (sc gc (elt (enc F (zs 16))) (jb n)), ve, vc] w fun r w' => r = .returned (.agg (arr (tg F n e c))) ∧ Below w.heap.size w w' := by
  obtain ⟨p1, c1, rfl, -, -, -⟩ := he.parts
  obtain ⟨p2, c2, rfl, -, -, -⟩ := hc.parts
  have HC := hid hC
  have CL := hid hC.lt
  have HE := hid he
  have HH := hid hc
  have NE := hid ne
  have NC := hid nc
  have JL := hid (jb_len n hn)
  have JY := hid (jb_byt n yn)
  have TL := hid (tg_len F n e c hn)
  have LE := hid (whole_len e)
  have LC := hid (whole_len c)
  have WM := hid (whole_mod e)
  have s0 := heap_alloc_new w (.cells (sc gc (elt (enc F (zs 16))) (jb n)) 55)
  have a1 := heap_alloc_new (w.alloc (.cells (sc gc (elt (enc F (zs 16))) (jb n)) 55)) (.cells #[.int .u8 0, .int .u8 0, .int .u8 0, .int .u8 0, .int .u8 0, .int .u8 0, .int .u8 0, .int .u8 0, .int .u8 0, .int .u8 0, .int .u8 0, .int .u8 0, .int .u8 0, .int .u8 0, .int .u8 0, .int .u8 0] 39)
  simp only [World.size_alloc] at a1
  have S0 := hid (show Sv _ _ _ _ _ from var_alloc (.cells #[.int .u8 0, .int .u8 0, .int .u8 0, .int .u8 0, .int .u8 0, .int .u8 0, .int .u8 0, .int .u8 0, .int .u8 0, .int .u8 0, .int .u8 0, .int .u8 0, .int .u8 0, .int .u8 0, .int .u8 0, .int .u8 0] 39) s0)
  have A0 := hid (show Ar _ _ 39 (zs 16) from a1)
  have B0 := hid (below_alloc2 w (.cells (sc gc (elt (enc F (zs 16))) (jb n)) 55) (.cells #[.int .u8 0, .int .u8 0, .int .u8 0, .int .u8 0, .int .u8 0, .int .u8 0, .int .u8 0, .int .u8 0, .int .u8 0, .int .u8 0, .int .u8 0, .int .u8 0, .int .u8 0, .int .u8 0, .int .u8 0, .int .u8 0] 39))
  clear hC he hc hn ne nc s0 a1
  go_enter Try.func40, Try.ntmps40
  go_wp2_with fail
  generalize (w.alloc (.cells (sc gc (elt (enc F (zs 16))) (jb n)) 55)).alloc (.cells #[.int .u8 0, .int .u8 0, .int .u8 0, .int .u8 0, .int .u8 0, .int .u8 0, .int .u8 0, .int .u8 0, .int .u8 0, .int .u8 0, .int .u8 0, .int .u8 0, .int .u8 0, .int .u8 0, .int .u8 0, .int .u8 0] 39) = W at *
  have ZW := hid B0.out.size
  have WL := hid (var_lt A0.out)
  have SLt := hid (var_lt S0.out)
  refine (awhole _ _ [] e W.heap.size _ (Own.nil _ _) (HE.out.below B0.out) (Nat.le_refl _) (by simp) (by have := NE.out; omega) (by rfl)).mono ?_
  rintro r w1 ⟨v1, rfl, O1, hM⟩
  rw [List.nil_append] at O1
  replace O1 := hid O1
  have H1 := hid hM
  have B1 := hid (B0.out.trans (hM.mono ZW.out))
  clear hM
  go_wp2_with fail
  refine (awhole _ _ (whole e) c W.heap.size _ O1.out (HH.out.below B1.out) H1.out.size (by rw [LE.out]; have := NE.out; omega) (by have := NC.out; omega) WM.out).mono ?_
  rintro r w2 ⟨v2, rfl, O2, hM⟩
  replace O2 := hid O2
  have H2 := hid (H1.out.trans hM)
  have B2 := hid (B1.out.trans (hM.mono ZW.out))
  clear hM O1 H1 B1
  go_wp2_with fail
  refine (lenbits _ e.length _ _ (by have := NE.out; omega)).mono ?_
  rintro r w3 ⟨v3, rfl, O3, hM⟩
  have P3 := hid (O2.out.below hM)
  have R3 := hid O3.rd
  have H3 := hid (H2.out.trans (hM.mono H2.out.size))
  have B3 := hid (B2.out.trans (hM.mono B2.out.size))
  clear hM O2 H2 B2 O3
  go_wp2_with (at_builtin; refine list_app rfl _ _ rfl _ _ (whole e ++ whole c) (packL (8 * e.length) 8) W.heap.size rfl rfl P3.out R3.out (by rw [List.length_append, packL_len, LE.out, LC.out]; have := NE.out; have := NC.out; omega) (H3.out.size) ?_; intro v4 w4 O4 G4)
  have H4 := hid (H3.out.grown G4 H3.out.size (P3.out.row (Nat.le_refl _)))
  have B4 := hid (B3.out.grown G4 B3.out.size (P3.out.row ZW.out))
  replace O4 := hid O4
  clear G4 P3 R3 H3 B3
  refine (lenbits _ c.length _ _ (by have := NC.out; omega)).mono ?_
  rintro r w5 ⟨v5, rfl, O5, hM⟩
  have P5 := hid (O4.out.below hM)
  have R5 := hid O5.rd
  have H5 := hid (H4.out.trans (hM.mono H4.out.size))
  have B5 := hid (B4.out.trans (hM.mono B4.out.size))
  clear hM O4 H4 B4 O5
  have ZB := hid (blk_size (jb n) JL.out)
  have U1 := hid (fun (w6 : World) (q : Below W.heap.size W w6) => (S0.out.below q).c0)
  have U2 := hid (fun (w6 : World) (q : Below W.heap.size W w6) => (S0.out.below q).range)
  go_wp2_with (first | (at_builtin; refine list_app rfl _ _ rfl _ _ (whole e ++ whole c ++ packL (8 * e.length) 8) (packL (8 * c.length) 8) W.heap.size rfl rfl P5.out R5.out (by rw [List.length_append, List.length_append, packL_len, packL_len, LE.out, LC.out]; have := NE.out; have := NC.out; omega) (H5.out.size) ?_; intro v6 w6 O6 G6; have H6 := hid (H5.out.grown G6 H5.out.size (P5.out.row (Nat.le_refl _))); have B6 := hid (B5.out.grown G6 B5.out.size (P5.out.row ZW.out)); replace O6 := hid (show Own w6 W.heap.size v6 (thash e c) from O6); clear G6 P5 R5 H5 B5; have cc := U1.out w6 H6.out) | refine load_sub rfl 39 _ rfl w.heap.size 3 rfl (jb n) (U2.out _ H6.out) _ Try.underlying39 rfl ZB.out ?_)
  refine (encr (jb n) F gc _ JL.out JY.out hF (HC.out.keep B6.out CL.out)).mono ?_
  rintro r w7 ⟨rfl, hM⟩
  have O7 := hid (O6.out.below hM)
  have H7 := hid (H6.out.trans (hM.mono H6.out.size))
  have B7 := hid (B6.out.trans (hM.mono B6.out.size))
  clear hM O6 H6 B6 cc
  have EL := hid (show (enc F (jb n)).length = 16 from stt_len F _ JL.out 10)
  have EY := hid (show Byt (enc F (jb n)) from stt_byt F hF _ JY.out 10)
  have ZE := hid (blk_size (enc F (jb n)) EL.out)
  have X7 := hid (show Ar _ _ 39 (zs 16) from heap_alloc_new w7 (.cells #[.int .u8 0, .int .u8 0, .int .u8 0, .int .u8 0, .int .u8 0, .int .u8 0, .int .u8 0, .int .u8 0, .int .u8 0, .int .u8 0, .int .u8 0, .int .u8 0, .int .u8 0, .int .u8 0, .int .u8 0, .int .u8 0] 39))
  have X8 := hid (X7.out.row (l' := enc F (jb n)))
  have hN := below_row (below_alloc1 w7 (.cells #[.int .u8 0, .int .u8 0, .int .u8 0, .int .u8 0, .int .u8 0, .int .u8 0, .int .u8 0, .int .u8 0, .int .u8 0, .int .u8 0, .int .u8 0, .int .u8 0, .int .u8 0, .int .u8 0, .int .u8 0, .int .u8 0] 39)) (g := w7.heap.size) (Nat.le_refl _) (arr (enc F (jb n)))
  have O8 := hid (O7.out.below hN)
  have H8 := hid (H7.out.trans (hN.mono H7.out.size))
  have B8 := hid (B7.out.trans (hN.mono B7.out.size))
  have d1 := (S0.out.below H8.out).c1
  have d2 := (S0.out.below H8.out).c2
  have ZG := hid H7.out.size
  clear hN
  go_wp2_with (refine wpList_store_row rfl 39 _ _ rfl w7.heap.size (arr (enc F (jb n))) rfl rfl 39 _ X7.out ZE.out (by rw [arr_size, arr_size, zs_len, EL.out]) (arr_one _) ?_; generalize ((w7.alloc (.cells #[.int .u8 0, .int .u8 0, .int .u8 0, .int .u8 0, .int .u8 0, .int .u8 0, .int .u8 0, .int .u8 0, .int .u8 0, .int .u8 0, .int .u8 0, .int .u8 0, .int .u8 0, .int .u8 0, .int .u8 0, .int .u8 0] 39)).setRow w7.heap.size (arr (enc F (jb n)))) = Y at *)
  refine (hashof (elt (enc F (zs 16))) _ (thash e c) _ O8.out.rd (thash_byt e c ye yc) (elt_64 _ (stt_byt F hF _ (zs_byt 16) 10)) (by rw [thash_len, LE.out, LC.out]; have := NE.out; have := NC.out; omega) (thash_mod e c)).mono ?_
  rintro r w9 ⟨rfl, hM⟩
  have X9 := hid (X8.out.below hM)
  have H9 := hid (H8.out.trans (hM.mono H8.out.size))
  have B9 := hid (B8.out.trans (hM.mono B8.out.size))
  clear hM O7 O8 H7 B7 H8 B8 X7 X8 d1 d2
  generalize w7.heap.size = gt0 at *
  go_wp2_with fail
  refine (addm gt0 (enc F (jb n)) (hshB (enc F (zs 16)) (thash e c)) _ EL.out (hshB_len _ _) EY.out (hshB_byt _ _) X9.out).mono ?_
  rintro r w10 ⟨rfl, X10, G10⟩
  replace X10 := hid (show Ar w10 gt0 39 (tg F n e c) from X10)
  have A10 := hid (show Ar w10 (w.heap.size + 1) 39 (zs 16) from var_grown G10 (A0.out.below H9.out) (by intro q; have h1 := ZG.out; have h2 := WL.out; cases q; omega))
  have B10 := hid (B9.out.grown G10 B9.out.size (fun k q => by cases q; have h1 := ZG.out; have h2 := ZW.out; omega))
  have ZT := hid (blk_size (tg F n e c) TL.out)
  clear G10 X9 H9 B9
  go_wp2_with (first | refine wpList_load_row rfl 39 _ rfl gt0 rfl 39 (arr (tg F n e c)) _ _ X10.out Try.underlying39 rfl ZT.out ?_ | refine wpList_store_row rfl 39 _ _ rfl (w.heap.size + 1) (arr (tg F n e c)) rfl rfl 39 _ A10.out ZT.out (by rw [arr_size, arr_size, zs_len, TL.out]) (arr_one _) ?_)
  exact bodyPost_ret (v := .agg (arr (tg F n e c))) (results_cell_row rfl _ _ (w.heap.size + 1) 39 _ _ _ rfl (A10.out.row (l' := tg F n e c)) Try.underlying39 rfl ZT.out) rfl ⟨rfl, below_row B10.out (by omega) _⟩
end Go.Proofs.Ytflnhjbanlpjiai.W
