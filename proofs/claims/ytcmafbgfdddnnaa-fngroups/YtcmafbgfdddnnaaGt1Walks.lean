/-
  Products of blocks: what the program's GroupTimes answers.
-/
import Derived.Test.YtcmafbgfdddnnaaBoeWalks
import Derived.Test.YtcmafbgfdddnnaaFaceWalks
import Derived.Test.YtcmafbgfdddnnaaTellWalks
import Derived.Test.YtcmafbgfdddnnaaBxM
namespace Go.Proofs.Ytcmafbgfdddnnaa.W
open Go.ChangeShapes Go.WideShapes Go.ChangeAt Go.RowKit
open Go.Proofs.Ytcmafbgfdddnnaa.M

set_option maxHeartbeats 1000000 in
set_option maxRecDepth 100000 in
theorem gt1_ok (ga gb : Nat) (va vb : Value) (la lb : List Nat) (w : World) (ca : Bx w ga va) (cb : Bx w gb vb) (ha : Rd w va la) (hb : Rd w vb lb) (ya : Byt la) (yb : Byt lb) (na : la.length = 16) (nb : lb.length = 16) :
    Calls Try.prog 89 #[.pointer (some ⟨ga, 0, none⟩), .pointer (some ⟨gb, 0, none⟩)] w fun e w' => ∃ r, e = .returned (.agg #[.int .i64 0, r]) ∧ Owx w' w.heap.size r (gtm lb la) ∧ Below w.heap.size w w' := by
  obtain ⟨pa, capa, rfl, -, -, -⟩ := ha.parts
  obtain ⟨pb, capb, rfl, -, -, -⟩ := hb.parts
  have CA := hid ca
  have CB := hid cb
  have HA := hid ha
  have HB := hid hb
  have NA := hid na
  have NB := hid nb
  have V0 := heap_alloc_new w (.cells #[.int .i64 0, .slice none 0 0] 33)
  have B0 := below_alloc1 w (.cells #[.int .i64 0, .slice none 0 0] 33)
  clear ca cb ha hb na nb
  go_enter Try.func89, Try.ntmps89
  go_wp2_with fail
  generalize w.alloc (.cells #[.int .i64 0, .slice none 0 0] 33) = W at *
  refine wp_region_held_drew (S := fun w' => Below w.heap.size w w') (by kernel_rfl) B0.drew (fun hH => ?_)
  refine wpAnyH_take (i := 0) (v := .slice pa la.length capa) (by simp only [List.getElem?_toArray, List.getElem?_cons_zero]; rfl) (by kernel_rfl) (by kernel_rfl) (by kernel_rfl) (by intro _ _ _ h; exact h) (Or.inl ⟨by rfl, fun w hS => by have c := CA.out.below hS; unfold Bx at c; go_simp⟩) hH ?_
  simp only [Act.put, List.setIfInBounds_toArray, List.set_cons_zero, List.set_cons_succ]
  refine wpAnyH_take (i := 3) (v := .slice pb lb.length capb) (by simp only [List.getElem?_toArray, List.getElem?_cons_succ, List.getElem?_cons_zero]; rfl) (by kernel_rfl) (by kernel_rfl) (by kernel_rfl) (by intro _ _ _ h; exact h) (Or.inl ⟨by rfl, fun w hS => by have c := CB.out.below hS; unfold Bx at c; go_simp⟩) hH ?_
  simp only [Act.put, List.setIfInBounds_toArray, List.set_cons_zero, List.set_cons_succ]
  have V1 : W.drew.heap[w.heap.size]? = some (.cells #[.int .i64 0, .slice none 0 0] 33) := V0
  generalize W.drew = x at hH V1 ⊢
  refine wpAnyH_ready (rs := [1]) (by kernel_rfl) (by simp) ?_
  refine AllReadyH.cons (by simp only [List.getElem?_toArray, List.getElem?_cons_succ, List.getElem?_cons_zero]; rfl) (fun K hK => ?_) AllReadyH.nil
  go_simp
  refine (blkof _ la _ (HA.out.below hH) NA.out).mono ?_
  rintro e x1 ⟨rfl, hM⟩
  refine hK.out _ _ (hH.trans (hM.mono hH.size)) (fun hH => ?_)
  clear hK K
  replace V1 := var_below hM V1
  clear hM
  refine wpAnyH_ready (rs := [2]) (by kernel_rfl) (by simp) ?_
  refine AllReadyH.cons (by simp only [List.getElem?_toArray, List.getElem?_cons_succ, List.getElem?_cons_zero]; rfl) (fun K hK => ?_) AllReadyH.nil
  go_simp
  refine (elemof la _ NA.out ya).mono ?_
  rintro e x2 ⟨rfl, hM⟩
  refine hK.out _ _ (hH.trans (hM.mono hH.size)) (fun hH => ?_)
  clear hK K
  replace V1 := var_below hM V1
  clear hM
  refine wpAnyH_ready (rs := [4]) (by kernel_rfl) (by simp) ?_
  refine AllReadyH.cons (by simp only [List.getElem?_toArray, List.getElem?_cons_succ, List.getElem?_cons_zero]; rfl) (fun K hK => ?_) AllReadyH.nil
  go_simp
  refine (blkof _ lb _ (HB.out.below hH) NB.out).mono ?_
  rintro e x4 ⟨rfl, hM⟩
  refine hK.out _ _ (hH.trans (hM.mono hH.size)) (fun hH => ?_)
  clear hK K
  replace V1 := var_below hM V1
  clear hM
  refine wpAnyH_ready (rs := [5]) (by kernel_rfl) (by simp) ?_
  refine AllReadyH.cons (by simp only [List.getElem?_toArray, List.getElem?_cons_succ, List.getElem?_cons_zero]; rfl) (fun K hK => ?_) AllReadyH.nil
  go_simp
  refine (elemof lb _ NB.out yb).mono ?_
  rintro e x5 ⟨rfl, hM⟩
  refine hK.out _ _ (hH.trans (hM.mono hH.size)) (fun hH => ?_)
  clear hK K
  replace V1 := var_below hM V1
  clear hM
  refine wpAnyH_ready (rs := [6]) (by kernel_rfl) (by simp) ?_
  refine AllReadyH.cons (by simp only [List.getElem?_toArray, List.getElem?_cons_succ, List.getElem?_cons_zero]; rfl) (fun K hK => ?_) AllReadyH.nil
  go_simp
  refine (gprod (elt la) (elt lb) _ (elt_64 la ya) (elt_64 lb yb)).mono ?_
  rintro e x6 ⟨rfl, hM⟩
  refine hK.out _ _ (hH.trans (hM.mono hH.size)) (fun hH => ?_)
  clear hK K
  replace V1 := var_below hM V1
  clear hM
  refine wpAnyH_ready (rs := [7]) (by kernel_rfl) (by simp) ?_
  refine AllReadyH.cons (by simp only [List.getElem?_toArray, List.getElem?_cons_succ, List.getElem?_cons_zero]; rfl) (fun K hK => ?_) AllReadyH.nil
  go_simp
  refine (blkofel (gmul (elt lb) (elt la)) _ (gmul_64 _ (elt_64 la ya))).mono ?_
  rintro e x7 ⟨rfl, hM⟩
  refine hK.out _ _ (hH.trans (hM.mono hH.size)) (fun hH => ?_)
  clear hK K
  replace V1 := var_below hM V1
  clear hM
  have hz3 := var_lt V1
  refine wpAnyH_ready (rs := [8]) (by kernel_rfl) (by simp) ?_
  refine AllReadyH.cons (by simp only [List.getElem?_toArray, List.getElem?_cons_succ, List.getElem?_cons_zero]; rfl) (fun K hK => ?_) AllReadyH.nil
  go_simp
  refine (tellb (gtm lb la) _ (gtm_len lb la)).mono ?_
  rintro e x8 ⟨r, rfl, O, hM⟩
  obtain ⟨q, c, rfl, -, -, -⟩ := O.rd.parts
  refine hK.out _ _ (hH.trans (hM.mono hH.size)) (fun hH2 => ?_)
  clear hK K
  replace V1 := var_below hM V1
  obtain ⟨f1, f2, f3, f4⟩ := var2_facts V1
  have hset := hid (var2_set (x' := .int .i64 0) (y' := .slice q (gtm lb la).length c) V1)
  have hbel := hid (below_set2 (x := .int .i64 0) (y := .slice q (gtm lb la).length c) hH2 (Nat.le_refl _))
  have hown := hid ((O.set2 (g := w.heap.size) (x := .int .i64 0) (y := .slice q (gtm lb la).length c) hz3).mono (base' := w.heap.size) (by omega))
  clear V1 O hM
  refine wpAnyH_ready (rs := [9]) (by kernel_rfl) (by simp) ?_
  refine AllReadyH.cons (by simp only [List.getElem?_toArray, List.getElem?_cons_succ, List.getElem?_cons_zero]; rfl) (fun K hK => ?_) AllReadyH.nil
  go_simp
  refine hK.out _ _ hbel.out (fun _ => ?_)
  clear hK K
  refine wpAnyH_done (by kernel_rfl) ?_ _
  go_wp2
  exact bodyPost_ret (v := .agg #[.int .i64 0, .slice q (gtm lb la).length c]) (results_cell_row rfl _ _ w.heap.size 33 _ _ _ rfl hset.out Try.underlying33 rfl (by kernel_rfl)) rfl ⟨_, rfl, hown.out, hbel.out⟩

set_option maxHeartbeats 1000000 in
set_option maxRecDepth 100000 in
theorem gt1_na (ga gb : Nat) (va vb : Value) (la lb : List Nat) (w : World) (ca : Bx w ga va) (cb : Bx w gb vb) (ha : Rd w va la) (hb : Rd w vb lb) (na : la.length ≠ 16) :
    Calls Try.prog 89 #[.pointer (some ⟨ga, 0, none⟩), .pointer (some ⟨gb, 0, none⟩)] w fun e w' => e = .panicked [{ v := .iface 9 (.string { data := #[110, 111, 32, 98, 108, 111, 99, 107] }), recovered := false }] ∧ Below w.heap.size w w' := by
  obtain ⟨pa, capa, rfl, -, -, -⟩ := ha.parts
  obtain ⟨pb, capb, rfl, -, -, -⟩ := hb.parts
  have CA := hid ca
  have CB := hid cb
  have HA := hid ha
  have HB := hid hb
  have NA := hid na
  have B0 := below_alloc1 w (.cells #[.int .i64 0, .slice none 0 0] 33)
  clear ca cb ha hb na
  go_enter Try.func89, Try.ntmps89
  go_wp2_with fail
  generalize w.alloc (.cells #[.int .i64 0, .slice none 0 0] 33) = W at *
  refine wp_region_held_drew (S := fun w' => Below w.heap.size w w') (by kernel_rfl) B0.drew (fun hH => ?_)
  refine wpAnyH_take (i := 0) (v := .slice pa la.length capa) (by simp only [List.getElem?_toArray, List.getElem?_cons_zero]; rfl) (by kernel_rfl) (by kernel_rfl) (by kernel_rfl) (by intro _ _ _ h; exact h) (Or.inl ⟨by rfl, fun w hS => by have c := CA.out.below hS; unfold Bx at c; go_simp⟩) hH ?_
  simp only [Act.put, List.setIfInBounds_toArray, List.set_cons_zero, List.set_cons_succ]
  refine wpAnyH_take (i := 3) (v := .slice pb lb.length capb) (by simp only [List.getElem?_toArray, List.getElem?_cons_succ, List.getElem?_cons_zero]; rfl) (by kernel_rfl) (by kernel_rfl) (by kernel_rfl) (by intro _ _ _ h; exact h) (Or.inl ⟨by rfl, fun w hS => by have c := CB.out.below hS; unfold Bx at c; go_simp⟩) hH ?_
  simp only [Act.put, List.setIfInBounds_toArray, List.set_cons_zero, List.set_cons_succ]
  generalize W.drew = x at hH ⊢
  refine wpAnyH_ready (rs := [1]) (by kernel_rfl) (by simp) ?_
  refine AllReadyH.cons (by simp only [List.getElem?_toArray, List.getElem?_cons_succ, List.getElem?_cons_zero]; rfl) (fun K hK => ?_) AllReadyH.nil
  go_simp
  refine (blkof_no _ la _ (HA.out.below hH) NA.out).mono ?_
  rintro e x1 ⟨rfl, hM⟩
  exact ⟨rfl, rfl, hH.trans (hM.mono hH.size)⟩

set_option maxHeartbeats 1000000 in
set_option maxRecDepth 100000 in
theorem gt1_nb (ga gb : Nat) (va vb : Value) (la lb : List Nat) (w : World) (ca : Bx w ga va) (cb : Bx w gb vb) (ha : Rd w va la) (hb : Rd w vb lb) (ya : Byt la) (na : la.length = 16) (nb : lb.length ≠ 16) :
    Calls Try.prog 89 #[.pointer (some ⟨ga, 0, none⟩), .pointer (some ⟨gb, 0, none⟩)] w fun e w' => e = .panicked [{ v := .iface 9 (.string { data := #[110, 111, 32, 98, 108, 111, 99, 107] }), recovered := false }] ∧ Below w.heap.size w w' := by
  obtain ⟨pa, capa, rfl, -, -, -⟩ := ha.parts
  obtain ⟨pb, capb, rfl, -, -, -⟩ := hb.parts
  have CA := hid ca
  have CB := hid cb
  have HA := hid ha
  have HB := hid hb
  have NA := hid na
  have NB := hid nb
  have B0 := below_alloc1 w (.cells #[.int .i64 0, .slice none 0 0] 33)
  clear ca cb ha hb na nb
  go_enter Try.func89, Try.ntmps89
  go_wp2_with fail
  generalize w.alloc (.cells #[.int .i64 0, .slice none 0 0] 33) = W at *
  refine wp_region_held_drew (S := fun w' => Below w.heap.size w w') (by kernel_rfl) B0.drew (fun hH => ?_)
  refine wpAnyH_take (i := 0) (v := .slice pa la.length capa) (by simp only [List.getElem?_toArray, List.getElem?_cons_zero]; rfl) (by kernel_rfl) (by kernel_rfl) (by kernel_rfl) (by intro _ _ _ h; exact h) (Or.inl ⟨by rfl, fun w hS => by have c := CA.out.below hS; unfold Bx at c; go_simp⟩) hH ?_
  simp only [Act.put, List.setIfInBounds_toArray, List.set_cons_zero, List.set_cons_succ]
  refine wpAnyH_take (i := 3) (v := .slice pb lb.length capb) (by simp only [List.getElem?_toArray, List.getElem?_cons_succ, List.getElem?_cons_zero]; rfl) (by kernel_rfl) (by kernel_rfl) (by kernel_rfl) (by intro _ _ _ h; exact h) (Or.inl ⟨by rfl, fun w hS => by have c := CB.out.below hS; unfold Bx at c; go_simp⟩) hH ?_
  simp only [Act.put, List.setIfInBounds_toArray, List.set_cons_zero, List.set_cons_succ]
  generalize W.drew = x at hH ⊢
  refine wpAnyH_ready (rs := [1]) (by kernel_rfl) (by simp) ?_
  refine AllReadyH.cons (by simp only [List.getElem?_toArray, List.getElem?_cons_succ, List.getElem?_cons_zero]; rfl) (fun K hK => ?_) AllReadyH.nil
  go_simp
  refine (blkof _ la _ (HA.out.below hH) NA.out).mono ?_
  rintro e x1 ⟨rfl, hM⟩
  refine hK.out _ _ (hH.trans (hM.mono hH.size)) (fun hH => ?_)
  clear hK K
  clear hM
  refine wpAnyH_ready (rs := [2]) (by kernel_rfl) (by simp) ?_
  refine AllReadyH.cons (by simp only [List.getElem?_toArray, List.getElem?_cons_succ, List.getElem?_cons_zero]; rfl) (fun K hK => ?_) AllReadyH.nil
  go_simp
  refine (elemof la _ NA.out ya).mono ?_
  rintro e x2 ⟨rfl, hM⟩
  refine hK.out _ _ (hH.trans (hM.mono hH.size)) (fun hH => ?_)
  clear hK K
  clear hM
  refine wpAnyH_ready (rs := [4]) (by kernel_rfl) (by simp) ?_
  refine AllReadyH.cons (by simp only [List.getElem?_toArray, List.getElem?_cons_succ, List.getElem?_cons_zero]; rfl) (fun K hK => ?_) AllReadyH.nil
  go_simp
  refine (blkof_no _ lb _ (HB.out.below hH) NB.out).mono ?_
  rintro e x4 ⟨rfl, hM⟩
  exact ⟨rfl, rfl, hH.trans (hM.mono hH.size)⟩
end Go.Proofs.Ytcmafbgfdddnnaa.W
