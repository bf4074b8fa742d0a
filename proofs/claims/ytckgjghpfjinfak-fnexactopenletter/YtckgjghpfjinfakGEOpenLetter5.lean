/-
  What was sealed is opened: what the program's OpenText answers.
  What is opened: what the program's heads answer where they open.
-/
import Derived.Test.YtckgjghpfjinfakGEOpenLetter4
import Derived.Test.YtckgjghpfjinfakAskF
import Derived.Test.YtckgjghpfjinfakCut
import Derived.Test.YtckgjghpfjinfakGEOpenLetter3
import Derived.Test.YtckgjghpfjinfakLetF

namespace Go.Proofs.Ytckgjghpfjinfak.W
open Go.ChangeShapes Go.WideShapes Go.ChangeAt Go.RowKit
open Go.Proofs.Ytckgjghpfjinfak.M
theorem row_range {w : World} {g : Nat} {cs : Array Value} {T : TypeId} (q : w.heap[g]? = some (.cells cs T)) : w.rangeAt g 0 cs.toList := fun i v hv => by
  rw [cell_of_row w g (0 + i) _ _ _ q, Nat.zero_add]
  simpa using hv

set_option maxRecDepth 100000 in
theorem iop_no (vk vn ve vp : Value) (k n e s : List Nat) (w : World) (hk : Rd w vk k) (hn : Rd w vn n) (he : Rd w ve e) (hp : Rd w vp s) (h : opOk k n e s = false) :
    Calls Try.prog 75 #[vk, vn, ve, vp] w fun r w' => r = .returned (.agg #[.int .i64 2, .slice none 0 0]) ∧ Below w.heap.size w w' := by
  obtain ⟨p1, c1, rfl, -, -, -⟩ := hk.parts
  obtain ⟨p2, c2, rfl, -, -, -⟩ := hn.parts
  obtain ⟨p3, c3, rfl, -, -, -⟩ := he.parts
  obtain ⟨p4, c4, rfl, -, -, -⟩ := hp.parts
  clear hk hn he hp
  have V0 := hid (heap_alloc_new w (.cells #[.int .i64 0, .slice none 0 0] 32))
  have B0 := hid (below_alloc1 w (.cells #[.int .i64 0, .slice none 0 0] 32))
  by_cases ha : askd k n e = true
  · have A := hid ha
    have WI := hid (show inB (s.length : Int) 0 616 = false by
      simp only [opOk, ha, Bool.true_and, decide_eq_false_iff_not] at h
      unfold inB
      rw [decide_eq_false (by omega)])
    clear ha h
    go_enter Try.func75, Try.ntmps75
    go_wp2_with fail
    refine (sfits _ _ _ _ _ _ k n e _).mono ?_
    rintro r W ⟨rfl, hM⟩
    rw [A.out]
    replace V0 := hid (var_below hM V0.out)
    replace B0 := hid (B0.out.trans (hM.mono B0.out.size))
    clear hM
    go_wp2_with fail
    refine (within1 (s.length : Int) 0 616 W.heap.size _ (heap_alloc_new W _)).mono ?_
    rintro r w3 ⟨rfl, hM⟩
    rw [WI.out]
    replace hM := (below_alloc1 W (.cells #[.int .i64 (s.length : Int), .int .i64 0, .int .i64 616] 70)).trans (hM.mono (by simp))
    replace V0 := hid (var_below hM V0.out)
    replace B0 := hid (B0.out.trans (hM.mono B0.out.size))
    clear hM
    obtain ⟨f1, f2, f3, f4⟩ := var2_facts V0.out
    have hset := hid (var2_set (x' := .int .i64 2) (y' := .slice none 0 0) V0.out)
    have hbel := hid (below_set2 (x := .int .i64 2) (y := .slice none 0 0) B0.out (Nat.le_refl _))
    go_wp2
    exact bodyPost_ret (v := .agg #[.int .i64 2, .slice none 0 0]) (results_cell_row rfl _ _ w.heap.size 32 _ _ _ rfl hset.out Try.underlying32 rfl (by kernel_rfl)) rfl ⟨rfl, hbel.out⟩
  · have A := hid (show askd k n e = false by simpa using ha)
    clear ha h
    go_enter Try.func75, Try.ntmps75
    go_wp2_with fail
    refine (sfits _ _ _ _ _ _ k n e _).mono ?_
    rintro r W ⟨rfl, hM⟩
    rw [A.out]
    replace V0 := hid (var_below hM V0.out)
    replace B0 := hid (B0.out.trans (hM.mono B0.out.size))
    clear hM
    obtain ⟨f1, f2, f3, f4⟩ := var2_facts V0.out
    have hset := hid (var2_set (x' := .int .i64 2) (y' := .slice none 0 0) V0.out)
    have hbel := hid (below_set2 (x := .int .i64 2) (y := .slice none 0 0) B0.out (Nat.le_refl _))
    go_wp2
    exact bodyPost_ret (v := .agg #[.int .i64 2, .slice none 0 0]) (results_cell_row rfl _ _ w.heap.size 32 _ _ _ rfl hset.out Try.underlying32 rfl (by kernel_rfl)) rfl ⟨rfl, hbel.out⟩

set_option maxHeartbeats 2000000 in
set_option maxRecDepth 100000 in
theorem iop_short (vk vn ve vp : Value) (k n e s : List Nat) (w : World) (hk : Rd w vk k) (hn : Rd w vn n) (he : Rd w ve e) (hp : Rd w vp s) (h : opOk k n e s = true) (hs : s.length < 16) :
    Calls Try.prog 75 #[vk, vn, ve, vp] w fun r w' => r = .returned (.agg #[.int .i64 9, .slice none 0 0]) ∧ Below w.heap.size w w' := by
  have Q := hid (opOk_parts h)
  have A := hid (show askd k n e = true by simp only [opOk, Bool.and_eq_true] at h; exact h.1)
  obtain ⟨b1, o1, c1, e1, -, -⟩ := hk.spot (by have := Q.out.1.1; omega)
  obtain ⟨b2, o2, c2, e2, -, -⟩ := hn.spot (by have := Q.out.1.2.1; omega)
  obtain ⟨p3, c3, rfl, -, -, -⟩ := he.parts
  obtain ⟨p4, c4, rfl, -, -, -⟩ := hp.parts
  subst e1 e2
  have WI := hid (show inB (s.length : Int) 0 616 = true by unfold inB; rw [decide_eq_true (by have := Q.out.2; omega)])
  have V0 := hid (heap_alloc_new w (.cells #[.int .i64 0, .slice none 0 0] 32))
  have B0 := hid (below_alloc1 w (.cells #[.int .i64 0, .slice none 0 0] 32))
  clear hk hn he hp h
  go_enter Try.func75, Try.ntmps75
  go_wp2_with fail
  refine (sfits _ _ _ _ _ _ k n e _).mono ?_
  rintro r W ⟨rfl, hM⟩
  rw [A.out]
  replace V0 := hid (var_below hM V0.out)
  replace B0 := hid (B0.out.trans (hM.mono B0.out.size))
  clear hM
  go_wp2_with fail
  refine (within1 (s.length : Int) 0 616 W.heap.size _ (heap_alloc_new W _)).mono ?_
  rintro r w3 ⟨rfl, hM⟩
  rw [WI.out]
  replace hM := (below_alloc1 W (.cells #[.int .i64 (s.length : Int), .int .i64 0, .int .i64 616] 70)).trans (hM.mono (by simp))
  replace V0 := hid (var_below hM V0.out)
  replace B0 := hid (B0.out.trans (hM.mono B0.out.size))
  clear hM
  have w1 : IntKind.i64.wrap ((s.length : Int) - 16) = (s.length : Int) - 16 := by rw [IntKind.wrap_i64]; omega
  have c1 : (s.length : Int) - 16 < 0 := by omega
  obtain ⟨f1, f2, f3, f4⟩ := var2_facts V0.out
  have hset := hid (var2_set (x' := .int .i64 9) (y' := .slice none 0 0) V0.out)
  have hbel := hid (below_set2 (x := .int .i64 9) (y := .slice none 0 0) B0.out (Nat.le_refl _))
  go_wp2
  exact bodyPost_ret (v := .agg #[.int .i64 9, .slice none 0 0]) (results_cell_row rfl _ _ w.heap.size 32 _ _ _ rfl hset.out Try.underlying32 rfl (by kernel_rfl)) rfl ⟨rfl, hbel.out⟩

set_option maxHeartbeats 2000000 in
set_option maxRecDepth 100000 in
theorem iop_ok (vk vn ve vp : Value) (k n e s : List Nat) (w : World) (hk : Rd w vk k) (hn : Rd w vn n) (he : Rd w ve e) (hp : Rd w vp s) (yk : Byt k) (yn : Byt n) (ye : Byt e) (yp : Byt s) (h : opOk k n e s = true) (m : Nat) (hm : s.length = m + 16) (ho : tg (kf k) n e (s.take m) = s.drop m) :
    Calls Try.prog 75 #[vk, vn, ve, vp] w fun r w' => ∃ v, r = .returned (.agg #[.int .i64 0, v]) ∧ Owx w' w.heap.size v (hid1 (kf k) n (s.take m)) ∧ Below w.heap.size w w' := by
  have Q := hid (opOk_parts h)
  have A := hid (show askd k n e = true by simp only [opOk, Bool.and_eq_true] at h; exact h.1)
  obtain ⟨b1, o1, c1, e1, -, -⟩ := hk.spot (by have := Q.out.1.1; omega)
  obtain ⟨b2, o2, c2, e2, -, -⟩ := hn.spot (by have := Q.out.1.2.1; omega)
  obtain ⟨p3, c3, rfl, -, -, -⟩ := he.parts
  obtain ⟨b4, o4, c4, rfl, hc4, -⟩ := hp.spot (by omega)
  subst e1 e2
  have WI := hid (show inB (s.length : Int) 0 616 = true by unfold inB; rw [decide_eq_true (by have := Q.out.2; omega)])
  have HK := hid hk
  have HN := hid hn
  have HE := hid he
  have HP := hid hp
  have V0 := hid (heap_alloc_new w (.cells #[.int .i64 0, .slice none 0 0] 32))
  have B0 := hid (below_alloc1 w (.cells #[.int .i64 0, .slice none 0 0] 32))
  have ZK := hid (key_size k Q.out.1.1)
  have ZN := hid (show (Try.prog.info? 131).map (·.size) = some (arr n).size by rw [arr_size, Q.out.1.2.1]; kernel_rfl)
  have RK := hid (rd_range hk)
  have RN := hid (rd_range hn)
  have JL := hid (jb_len n Q.out.1.2.1)
  have HF := hid (kf_lt k yk)
  have PT := hid (rd_piece hp 0 m (by omega))
  rw [Nat.add_zero, Nat.sub_zero, sub_take] at PT
  have PD := hid (rd_piece hp m 16 (by omega))
  rw [sub_drop s m 16 (by omega)] at PD
  have TLn := hid (show (s.take m).length = m by rw [List.length_take]; omega)
  have DLn := hid (show (s.drop m).length = 16 by rw [List.length_drop]; omega)
  have TY := hid (show Byt (s.take m) from fun x hx => yp x (List.mem_of_mem_take hx))
  have RU := run_upto b4 o4 s.length c4 m (by omega) (by omega)
  have RF := run_from b4 o4 s.length c4 m (by omega) (by omega)
  rw [show s.length - m = 16 by omega] at RF
  have ws : IntKind.i64.wrap ((s.length : Int) - 16) = (m : Int) := by have hq := Q.out.2; rw [IntKind.wrap_i64]; omega
  have es : (s.length : Int) - 16 = (m : Int) := by omega
  have m0 : ¬ (m : Int) < 0 := by omega
  have MM := hid (show m ≤ 600 by have := Q.out.2; omega)
  have mb : m ≤ 600 := MM.out
  have HO := hid ho
  have P3 := arr_at 127 5 16 Try.underlying127 (some ⟨b4, o4 + m, none⟩) 16 (c4 - m) (Nat.le_refl _)
  have RD := hid (rd_range PD.out)
  have ZD := hid (blk_size (s.drop m) DLn.out)
  clear hk hn he hp h hm ho hc4
  go_enter Try.func75, Try.ntmps75
  go_wp2_with fail
  refine (sfits _ _ _ _ _ _ k n e _).mono ?_
  rintro r W ⟨rfl, hM⟩
  rw [A.out]
  replace V0 := hid (var_below hM V0.out)
  replace B0 := hid (B0.out.trans (hM.mono B0.out.size))
  clear hM
  go_wp2_with fail
  refine (within1 (s.length : Int) 0 616 W.heap.size _ (heap_alloc_new W _)).mono ?_
  rintro r w3 ⟨rfl, hM⟩
  rw [WI.out]
  replace hM := (below_alloc1 W (.cells #[.int .i64 (s.length : Int), .int .i64 0, .int .i64 616] 70)).trans (hM.mono (by simp))
  replace V0 := hid (var_below hM V0.out)
  replace B0 := hid (B0.out.trans (hM.mono B0.out.size))
  clear hM
  have P1 := arr_at 91 5 16 Try.underlying91 (some ⟨b1, o1, none⟩) k.length c1 (by rw [Q.out.1.1]; omega)
  have P2 := arr_at 131 5 12 Try.underlying131 (some ⟨b2, o2, none⟩) n.length c2 (by rw [Q.out.1.2.1]; omega)
  go_wp2_with fail
  have V1 : w3.drew.heap[w.heap.size]? = some (.cells #[.int .i64 0, .slice none 0 0] 32) := V0.out
  refine wp_region_held_drew (S := fun w' => Below w.heap.size w w') (by kernel_rfl) B0.out.drew (fun hH => ?_)
  refine wpAnyH_take (i := 0) (v := .slice (some ⟨b1, o1, none⟩) k.length c1) (by simp only [List.getElem?_toArray, List.getElem?_cons_zero]; rfl) (by kernel_rfl) (by kernel_rfl) (by kernel_rfl) (by intro _ _ _ h; exact h) (Or.inl ⟨by rfl, fun w hS => by go_simp⟩) hH ?_
  simp only [Act.put, List.setIfInBounds_toArray, List.set_cons_zero, List.set_cons_succ]
  refine wpAnyH_take (i := 1) (v := .pointer (some ⟨b1, o1, none⟩)) (by simp only [List.getElem?_toArray, List.getElem?_cons_succ, List.getElem?_cons_zero]; rfl) (by kernel_rfl) (by kernel_rfl) (by kernel_rfl) (by intro _ _ _ h; exact h) (Or.inl ⟨by rfl, fun w hS => by go_simp⟩) hH ?_
  simp only [Act.put, List.setIfInBounds_toArray, List.set_cons_zero, List.set_cons_succ]
  refine wpAnyH_take (i := 2) (v := .agg (arr k)) (by simp only [List.getElem?_toArray, List.getElem?_cons_succ, List.getElem?_cons_zero]; rfl) (by kernel_rfl) (by kernel_rfl) (by kernel_rfl) (by intro _ _ _ h; exact h) (yieldsIf_load_mid (by rfl) _ _ rfl b1 o1 rfl (k.map bv) _ (fun w hS => rangeAt.below RK.out hS) Try.underlying91 rfl (by rw [List.length_map, ← arr_size]; exact ZK.out)) hH ?_
  simp only [Act.put, List.setIfInBounds_toArray, List.set_cons_zero, List.set_cons_succ]
  refine wpAnyH_take (i := 3) (v := .slice (some ⟨b2, o2, none⟩) n.length c2) (by simp only [List.getElem?_toArray, List.getElem?_cons_succ, List.getElem?_cons_zero]; rfl) (by kernel_rfl) (by kernel_rfl) (by kernel_rfl) (by intro _ _ _ h; exact h) (Or.inl ⟨by rfl, fun w hS => by go_simp⟩) hH ?_
  simp only [Act.put, List.setIfInBounds_toArray, List.set_cons_zero, List.set_cons_succ]
  refine wpAnyH_take (i := 4) (v := .pointer (some ⟨b2, o2, none⟩)) (by simp only [List.getElem?_toArray, List.getElem?_cons_succ, List.getElem?_cons_zero]; rfl) (by kernel_rfl) (by kernel_rfl) (by kernel_rfl) (by intro _ _ _ h; exact h) (Or.inl ⟨by rfl, fun w hS => by go_simp⟩) hH ?_
  simp only [Act.put, List.setIfInBounds_toArray, List.set_cons_zero, List.set_cons_succ]
  refine wpAnyH_take (i := 5) (v := .agg (arr n)) (by simp only [List.getElem?_toArray, List.getElem?_cons_succ, List.getElem?_cons_zero]; rfl) (by kernel_rfl) (by kernel_rfl) (by kernel_rfl) (by intro _ _ _ h; exact h) (yieldsIf_load_mid (by rfl) _ _ rfl b2 o2 rfl (n.map bv) _ (fun w hS => rangeAt.below RN.out hS) Try.underlying131 rfl (by rw [List.length_map, ← arr_size]; exact ZN.out)) hH ?_
  simp only [Act.put, List.setIfInBounds_toArray, List.set_cons_zero, List.set_cons_succ]
  generalize w3.drew = x at hH V1 ⊢
  refine wpAnyH_ready (rs := [6, 7]) (by kernel_rfl) (by simp) ?_
  refine AllReadyH.cons (by simp only [List.getElem?_toArray, List.getElem?_cons_succ, List.getElem?_cons_zero]; rfl) (fun K hK => ?_) ?_
  · go_simp
    refine (sealerof k n _ Q.out.1.1 Q.out.1.2.1 yk).mono ?_
    rintro r x6 ⟨g, rfl, C, hg, hM⟩
    refine hK.out _ _ (hH.trans (hM.mono hH.size)) (fun hH => ?_)
    clear hK K
    replace V1 := var_below hM V1
    have hg2 := hg
    clear hM
    have hcl := C.lt
    refine wpAnyH_ready (rs := [7]) (by kernel_rfl) (by simp) ?_
    refine AllReadyH.cons (by simp only [List.getElem?_toArray, List.getElem?_cons_succ, List.getElem?_cons_zero]; rfl) (fun K hK => ?_) AllReadyH.nil
    have F9 := heap_alloc_new x6 (.cells #[.pointer none, .int .u64 0, .int .u64 0, .int .u8 0, .int .u8 0, .int .u8 0, .int .u8 0, .int .u8 0, .int .u8 0, .int .u8 0, .int .u8 0, .int .u8 0, .int .u8 0, .int .u8 0, .int .u8 0, .int .u8 0, .int .u8 0, .int .u8 0, .int .u8 0] 129)
    have hs9 := var_lt V1
    have hz := hH.size
    replace V1 := var_alloc (.cells #[.pointer none, .int .u64 0, .int .u64 0, .int .u8 0, .int .u8 0, .int .u8 0, .int .u8 0, .int .u8 0, .int .u8 0, .int .u8 0, .int .u8 0, .int .u8 0, .int .u8 0, .int .u8 0, .int .u8 0, .int .u8 0, .int .u8 0, .int .u8 0, .int .u8 0] 129) V1
    replace C := C.alloc (.cells #[.pointer none, .int .u64 0, .int .u64 0, .int .u8 0, .int .u8 0, .int .u8 0, .int .u8 0, .int .u8 0, .int .u8 0, .int .u8 0, .int .u8 0, .int .u8 0, .int .u8 0, .int .u8 0, .int .u8 0, .int .u8 0, .int .u8 0, .int .u8 0, .int .u8 0] 129)
    go_simp
    refine hK.out _ _ (hH.alloc hH.size _) (fun hH => ?_)
    clear hK K
    have hne : g ≠ x6.heap.size := by omega
    refine wpAnyH_ready (rs := [8]) (by kernel_rfl) (by simp) ?_
    refine AllReadyH.cons (by simp only [List.getElem?_toArray, List.getElem?_cons_succ, List.getElem?_cons_zero]; rfl) (fun K hK => ?_) AllReadyH.nil
    refine step_store_row (by rfl) _ _ _ (by rfl) (x6.heap.size) (sc g (elt (enc (kf k) (zs 16))) (jb n)) (by rfl) (by rfl) 129 _ F9 (sc_info _ _ _ JL.out) (zsc_old _ _ _ JL.out) (sc_one _ _ _) ?_
    have g9l := hid (show w.heap.size < x6.heap.size by have := hs9; omega)
    have BY := hid (below_row hH (g := x6.heap.size) (by omega) (sc g (elt (enc (kf k) (zs 16))) (jb n)))
    refine hK.out _ _ BY.out (fun _ => ?_)
    clear hK K
    simp only [Act.put]
    have SY := hid (show Sv _ _ _ _ _ from setRow_heap _ (x6.heap.size) _ (sc g (elt (enc (kf k) (zs 16))) (jb n)) _ _ F9)
    have CY := hid (C.rowFar (g' := x6.heap.size) (sc g (elt (enc (kf k) (zs 16))) (jb n)) (by omega))
    have VY := hid ((setRow_other (x6.alloc (.cells #[.pointer none, .int .u64 0, .int .u64 0, .int .u8 0, .int .u8 0, .int .u8 0, .int .u8 0, .int .u8 0, .int .u8 0, .int .u8 0, .int .u8 0, .int .u8 0, .int .u8 0, .int .u8 0, .int .u8 0, .int .u8 0, .int .u8 0, .int .u8 0, .int .u8 0] 129)) (x6.heap.size) w.heap.size (sc g (elt (enc (kf k) (zs 16))) (jb n)) (by omega)).trans V1)
    generalize hg9 : x6.heap.size = g9 at *
    generalize (x6.alloc (.cells #[.pointer none, .int .u64 0, .int .u64 0, .int .u8 0, .int .u8 0, .int .u8 0, .int .u8 0, .int .u8 0, .int .u8 0, .int .u8 0, .int .u8 0, .int .u8 0, .int .u8 0, .int .u8 0, .int .u8 0, .int .u8 0, .int .u8 0, .int .u8 0, .int .u8 0] 129)).setRow g9 (sc g (elt (enc (kf k) (zs 16))) (jb n)) = y at *
    clear F9 V1 C hH hs9 hg9
    refine wpAnyH_done (by kernel_rfl) ?_ _
    go_wp2_with fail
    have V1 : y.drew.heap[w.heap.size]? = some (.cells #[.int .i64 0, .slice none 0 0] 32) := VY.out
    have S1 : Sv y.drew g9 _ _ _ := SY.out
    have C1 : Ar y.drew g _ _ := CY.out
    refine wp_region_held_drew (S := fun w' => Below w.heap.size w w') (by kernel_rfl) BY.out.drew (fun hH => ?_)
    refine wpAnyH_take (i := 0) (v := .slice (some ⟨b4, o4, none⟩) s.length c4) (by simp only [List.getElem?_toArray, List.getElem?_cons_zero]; rfl) (by kernel_rfl) (by kernel_rfl) (by kernel_rfl) (by intro _ _ _ h; exact h) (Or.inl ⟨by rfl, fun w hS => by go_simp⟩) hH ?_
    simp only [Act.put, List.setIfInBounds_toArray, List.set_cons_zero, List.set_cons_succ]
    refine wpAnyH_take (i := 1) (v := .int .i64 (m : Int)) (by simp only [List.getElem?_toArray, List.getElem?_cons_succ, List.getElem?_cons_zero]; rfl) (by kernel_rfl) (by kernel_rfl) (by kernel_rfl) (by intro _ _ _ h; exact h) (Or.inl ⟨by rfl, fun w hS => by go_simp⟩) hH ?_
    simp only [Act.put, List.setIfInBounds_toArray, List.set_cons_zero, List.set_cons_succ]
    refine wpAnyH_take (i := 2) (v := .slice (some ⟨b4, o4, none⟩) m c4) (by simp only [List.getElem?_toArray, List.getElem?_cons_succ, List.getElem?_cons_zero]; rfl) (by kernel_rfl) (by kernel_rfl) (by kernel_rfl) (by intro _ _ _ h; exact h) (Or.inl ⟨by rfl, fun w hS => by go_simp⟩) hH ?_
    simp only [Act.put, List.setIfInBounds_toArray, List.set_cons_zero, List.set_cons_succ]
    refine wpAnyH_take (i := 3) (v := .slice (some ⟨b4, o4, none⟩) s.length c4) (by simp only [List.getElem?_toArray, List.getElem?_cons_succ, List.getElem?_cons_zero]; rfl) (by kernel_rfl) (by kernel_rfl) (by kernel_rfl) (by intro _ _ _ h; exact h) (Or.inl ⟨by rfl, fun w hS => by go_simp⟩) hH ?_
    simp only [Act.put, List.setIfInBounds_toArray, List.set_cons_zero, List.set_cons_succ]
    refine wpAnyH_take (i := 4) (v := .int .i64 (m : Int)) (by simp only [List.getElem?_toArray, List.getElem?_cons_succ, List.getElem?_cons_zero]; rfl) (by kernel_rfl) (by kernel_rfl) (by kernel_rfl) (by intro _ _ _ h; exact h) (Or.inl ⟨by rfl, fun w hS => by go_simp⟩) hH ?_
    simp only [Act.put, List.setIfInBounds_toArray, List.set_cons_zero, List.set_cons_succ]
    refine wpAnyH_take (i := 5) (v := .slice (some ⟨b4, o4 + m, none⟩) 16 (c4 - m)) (by simp only [List.getElem?_toArray, List.getElem?_cons_succ, List.getElem?_cons_zero]; rfl) (by kernel_rfl) (by kernel_rfl) (by kernel_rfl) (by intro _ _ _ h; exact h) (Or.inl ⟨by rfl, fun w hS => by go_simp⟩) hH ?_
    simp only [Act.put, List.setIfInBounds_toArray, List.set_cons_zero, List.set_cons_succ]
    refine wpAnyH_take (i := 6) (v := .pointer (some ⟨b4, o4 + m, none⟩)) (by simp only [List.getElem?_toArray, List.getElem?_cons_succ, List.getElem?_cons_zero]; rfl) (by kernel_rfl) (by kernel_rfl) (by kernel_rfl) (by intro _ _ _ h; exact h) (Or.inl ⟨by rfl, fun w hS => by go_simp⟩) hH ?_
    simp only [Act.put, List.setIfInBounds_toArray, List.set_cons_zero, List.set_cons_succ]
    refine wpAnyH_take (i := 7) (v := .agg (arr (s.drop m))) (by simp only [List.getElem?_toArray, List.getElem?_cons_succ, List.getElem?_cons_zero]; rfl) (by kernel_rfl) (by kernel_rfl) (by kernel_rfl) (by intro _ _ _ h; exact h) (yieldsIf_load_mid (by rfl) _ _ rfl b4 (o4 + m) rfl ((s.drop m).map bv) _ (fun w hS => rangeAt.below RD.out hS) Try.underlying127 rfl (by rw [List.length_map, ← arr_size]; exact ZD.out)) hH ?_
    simp only [Act.put, List.setIfInBounds_toArray, List.set_cons_zero, List.set_cons_succ]
    generalize y.drew = x7 at hH V1 S1 C1 ⊢
    clear VY SY CY BY
    refine wpAnyH_ready (rs := [8]) (by kernel_rfl) (by simp) ?_
    refine AllReadyH.cons (by simp only [List.getElem?_toArray, List.getElem?_cons_succ, List.getElem?_cons_zero]; rfl) (fun K hK => ?_) AllReadyH.nil
    have T7 : Ar _ _ 127 (zs 16) := heap_alloc_new x7 (.cells #[.int .u8 0, .int .u8 0, .int .u8 0, .int .u8 0, .int .u8 0, .int .u8 0, .int .u8 0, .int .u8 0, .int .u8 0, .int .u8 0, .int .u8 0, .int .u8 0, .int .u8 0, .int .u8 0, .int .u8 0, .int .u8 0] 127)
    have l9 : g9 < x7.heap.size := var_lt S1
    have lc : g < x7.heap.size := C1.lt
    have lv : w.heap.size < x7.heap.size := var_lt V1
    replace V1 := var_alloc (.cells #[.int .u8 0, .int .u8 0, .int .u8 0, .int .u8 0, .int .u8 0, .int .u8 0, .int .u8 0, .int .u8 0, .int .u8 0, .int .u8 0, .int .u8 0, .int .u8 0, .int .u8 0, .int .u8 0, .int .u8 0, .int .u8 0] 127) V1
    replace S1 : Sv _ g9 _ _ _ := var_alloc (.cells #[.int .u8 0, .int .u8 0, .int .u8 0, .int .u8 0, .int .u8 0, .int .u8 0, .int .u8 0, .int .u8 0, .int .u8 0, .int .u8 0, .int .u8 0, .int .u8 0, .int .u8 0, .int .u8 0, .int .u8 0, .int .u8 0] 127) S1
    replace C1 := C1.alloc (.cells #[.int .u8 0, .int .u8 0, .int .u8 0, .int .u8 0, .int .u8 0, .int .u8 0, .int .u8 0, .int .u8 0, .int .u8 0, .int .u8 0, .int .u8 0, .int .u8 0, .int .u8 0, .int .u8 0, .int .u8 0, .int .u8 0] 127)
    go_simp
    refine hK.out _ _ (hH.alloc hH.size _) (fun hH => ?_)
    clear hK K
    refine wpAnyH_ready (rs := [9]) (by kernel_rfl) (by simp) ?_
    refine AllReadyH.cons (by simp only [List.getElem?_toArray, List.getElem?_cons_succ, List.getElem?_cons_zero]; rfl) (fun K hK => ?_) AllReadyH.nil
    go_simp
    refine hK.out _ _ hH (fun hH => ?_)
    clear hK K
    refine wpAnyH_ready (rs := [10]) (by kernel_rfl) (by simp) ?_
    refine AllReadyH.cons (by simp only [List.getElem?_toArray, List.getElem?_cons_succ, List.getElem?_cons_zero]; rfl) (fun K hK => ?_) AllReadyH.nil
    refine step_store_row (by rfl) _ _ _ (by rfl) x7.heap.size (arr (s.drop m)) (by rfl) (by rfl) 127 _ T7 ZD.out (by rw [arr_size, arr_size, zs_len, DLn.out]) (arr_one _) ?_
    have BZ := hid (below_row hH (g := x7.heap.size) (by omega) (arr (s.drop m)))
    refine hK.out _ _ BZ.out (fun _ => ?_)
    clear hK K
    simp only [Act.put]
    have TZ := hid (T7.row (l' := s.drop m))
    have CZ := hid (C1.rowFar (g' := x7.heap.size) (arr (s.drop m)) (by omega))
    have SZ := hid (show Sv _ _ _ _ _ from (setRow_other (x7.alloc (.cells #[.int .u8 0, .int .u8 0, .int .u8 0, .int .u8 0, .int .u8 0, .int .u8 0, .int .u8 0, .int .u8 0, .int .u8 0, .int .u8 0, .int .u8 0, .int .u8 0, .int .u8 0, .int .u8 0, .int .u8 0, .int .u8 0] 127)) x7.heap.size g9 (arr (s.drop m)) (by omega)).trans S1)
    have VZ := hid ((setRow_other (x7.alloc (.cells #[.int .u8 0, .int .u8 0, .int .u8 0, .int .u8 0, .int .u8 0, .int .u8 0, .int .u8 0, .int .u8 0, .int .u8 0, .int .u8 0, .int .u8 0, .int .u8 0, .int .u8 0, .int .u8 0, .int .u8 0, .int .u8 0] 127)) x7.heap.size w.heap.size (arr (s.drop m)) (by omega)).trans V1)
    clear T7 V1 S1 C1 hH l9 lc lv
    generalize (x7.alloc (.cells #[.int .u8 0, .int .u8 0, .int .u8 0, .int .u8 0, .int .u8 0, .int .u8 0, .int .u8 0, .int .u8 0, .int .u8 0, .int .u8 0, .int .u8 0, .int .u8 0, .int .u8 0, .int .u8 0, .int .u8 0, .int .u8 0] 127)).setRow x7.heap.size (arr (s.drop m)) = z at *
    generalize x7.heap.size = g12 at *
    refine wpAnyH_done (by kernel_rfl) ?_ _
    have TL := hid (tg_len (kf k) n e (s.take m) Q.out.1.2.1)
    have GB := guard_blk
    have NE : ∀ w, (binOp .neq 127 (.agg (arr (tg (kf k) n e (s.take m)))) (.agg (arr (s.drop m)))).run Try.prog w = .ok (.bool false) w := fun w => by rw [neq_blk _ _ TL.out DLn.out, HO.out]; simp
    have RS := hid (row_range SZ.out)
    have RT := hid (show z.rangeAt g12 0 ((s.drop m).map bv) from row_range TZ.out)
    go_wp2_with fail
    refine wp_region_held_drew (S := fun w' => Below z.heap.size z w') (by kernel_rfl) (Below.refl _ _).drew (fun hH => ?_)
    refine wpAnyH_take (i := 0) (v := .agg (sc g (elt (enc (kf k) (zs 16))) (jb n))) (by simp only [List.getElem?_toArray, List.getElem?_cons_zero]; rfl) (by kernel_rfl) (by kernel_rfl) (by kernel_rfl) (by intro _ _ _ h; exact h) (yieldsIf_load_mid (by rfl) _ _ rfl g9 0 rfl (sc g (elt (enc (kf k) (zs 16))) (jb n)).toList _ (fun w hS => rangeAt.below RS.out hS) Try.underlying129 rfl (by rw [Array.length_toList]; exact sc_info _ _ _ JL.out)) hH ?_
    simp only [Act.put, List.setIfInBounds_toArray, List.set_cons_zero, List.set_cons_succ]
    refine wpAnyH_take (i := 1) (v := .slice p3 e.length c3) (by simp only [List.getElem?_toArray, List.getElem?_cons_succ, List.getElem?_cons_zero]; rfl) (by kernel_rfl) (by kernel_rfl) (by kernel_rfl) (by intro _ _ _ h; exact h) (Or.inl ⟨by rfl, fun w hS => by go_simp⟩) hH ?_
    simp only [Act.put, List.setIfInBounds_toArray, List.set_cons_zero, List.set_cons_succ]
    refine wpAnyH_take (i := 2) (v := .slice (some ⟨b4, o4, none⟩) m c4) (by simp only [List.getElem?_toArray, List.getElem?_cons_succ, List.getElem?_cons_zero]; rfl) (by kernel_rfl) (by kernel_rfl) (by kernel_rfl) (by intro _ _ _ h; exact h) (Or.inl ⟨by rfl, fun w hS => by go_simp⟩) hH ?_
    simp only [Act.put, List.setIfInBounds_toArray, List.set_cons_zero, List.set_cons_succ]
    refine wpAnyH_take (i := 4) (v := .agg (arr (s.drop m))) (by simp only [List.getElem?_toArray, List.getElem?_cons_succ, List.getElem?_cons_zero]; rfl) (by kernel_rfl) (by kernel_rfl) (by kernel_rfl) (by intro _ _ _ h; exact h) (yieldsIf_load_mid (by rfl) _ _ rfl g12 0 rfl ((s.drop m).map bv) _ (fun w hS => rangeAt.below RT.out hS) Try.underlying127 rfl (by rw [List.length_map, ← arr_size]; exact ZD.out)) hH ?_
    simp only [Act.put, List.setIfInBounds_toArray, List.set_cons_zero, List.set_cons_succ]
    refine wpAnyH_ready (rs := [3]) (by kernel_rfl) (by simp) ?_
    refine AllReadyH.cons (by simp only [List.getElem?_toArray, List.getElem?_cons_succ, List.getElem?_cons_zero]; rfl) (fun K hK => ?_) AllReadyH.nil
    go_simp
    refine (itag g n _ _ e (s.take m) (kf k) _ (CZ.out.below hH) HF.out Q.out.1.2.1 yn ((HE.out.below BZ.out).below hH) ((PT.out.below BZ.out).below hH) ye TY.out (by have := Q.out.1.2.2; omega) (by rw [TLn.out]; omega)).mono ?_
    rintro r y2 ⟨rfl, hM⟩
    refine hK.out _ _ (hH.trans (hM.mono hH.size)) (fun hH => ?_)
    clear hK K hM
    refine wpAnyH_ready (rs := [5]) (by kernel_rfl) (by simp) ?_
    refine AllReadyH.cons (by simp only [List.getElem?_toArray, List.getElem?_cons_succ, List.getElem?_cons_zero]; rfl) (fun K hK => ?_) AllReadyH.nil
    go_simp
    refine hK.out _ _ hH (fun hH => ?_)
    clear hK K
    have VY := hid (var_below hH VZ.out)
    have SY := hid (SZ.out.below hH)
    have CY := hid (CZ.out.below hH)
    have BY := hid (BZ.out.trans (hH.mono BZ.out.size))
    clear VZ SZ CZ BZ TZ RS RT hH NE
    refine wpAnyH_done (by kernel_rfl) ?_ _
    go_wp2_with (refine wpList_load_row rfl 129 _ rfl g9 rfl 129 (sc g (elt (enc (kf k) (zs 16))) (jb n)) _ _ SY.out Try.underlying129 rfl (sc_info _ _ _ JL.out) ?_)
    refine (ihide g _ n _ (s.take m) (kf k) _ CY.out HF.out Q.out.1.2.1 yn (PT.out.below BY.out) TY.out (by rw [TLn.out]; omega)).mono ?_
    rintro r y1 ⟨v1, rfl, O1, hM⟩
    have ZY := hid (show w.heap.size < y2.heap.size from var_lt VY.out)
    have V4 := var_below hM VY.out
    have B4 := BY.out.trans (hM.mono BY.out.size)
    clear hM VY SY CY BY
    obtain ⟨f1, f2, f3, f4⟩ := var2_facts V4
    obtain ⟨q4, d4, e4, -, -, -⟩ := O1.rd.parts
    generalize (hid1 (kf k) n (s.take m)).length = m4 at e4
    subst e4
    have hset := hid (var2_set (x' := .int .i64 0) (y' := .slice q4 m4 d4) V4)
    have hbel := hid (below_set2 (x := .int .i64 0) (y := .slice q4 m4 d4) B4 (Nat.le_refl _))
    have hown := hid ((O1.set2 (g := w.heap.size) (x := .int .i64 0) (y := .slice q4 m4 d4) ZY.out).mono (base' := w.heap.size) (Nat.le_of_lt ZY.out)).x
    clear V4 B4 O1
    go_wp2
    exact bodyPost_ret (v := .agg #[.int .i64 0, .slice q4 m4 d4]) (results_cell_row rfl _ _ w.heap.size 32 _ _ _ rfl hset.out Try.underlying32 rfl (by kernel_rfl)) rfl ⟨_, rfl, hown.out, hbel.out⟩
  refine AllReadyH.cons (by simp only [List.getElem?_toArray, List.getElem?_cons_succ, List.getElem?_cons_zero]; rfl) (fun K hK => ?_) ?_
  · have F9 := heap_alloc_new x (.cells #[.pointer none, .int .u64 0, .int .u64 0, .int .u8 0, .int .u8 0, .int .u8 0, .int .u8 0, .int .u8 0, .int .u8 0, .int .u8 0, .int .u8 0, .int .u8 0, .int .u8 0, .int .u8 0, .int .u8 0, .int .u8 0, .int .u8 0, .int .u8 0, .int .u8 0] 129)
    have hs9 := var_lt V1
    have hz := hH.size
    replace V1 := var_alloc (.cells #[.pointer none, .int .u64 0, .int .u64 0, .int .u8 0, .int .u8 0, .int .u8 0, .int .u8 0, .int .u8 0, .int .u8 0, .int .u8 0, .int .u8 0, .int .u8 0, .int .u8 0, .int .u8 0, .int .u8 0, .int .u8 0, .int .u8 0, .int .u8 0, .int .u8 0] 129) V1
    go_simp
    refine hK.out _ _ (hH.alloc hH.size _) (fun hH => ?_)
    clear hK K
    have hsx : (x.alloc (.cells #[.pointer none, .int .u64 0, .int .u64 0, .int .u8 0, .int .u8 0, .int .u8 0, .int .u8 0, .int .u8 0, .int .u8 0, .int .u8 0, .int .u8 0, .int .u8 0, .int .u8 0, .int .u8 0, .int .u8 0, .int .u8 0, .int .u8 0, .int .u8 0, .int .u8 0] 129)).heap.size = x.heap.size + 1 := by simp
    refine wpAnyH_ready (rs := [6]) (by kernel_rfl) (by simp) ?_
    refine AllReadyH.cons (by simp only [List.getElem?_toArray, List.getElem?_cons_succ, List.getElem?_cons_zero]; rfl) (fun K hK => ?_) AllReadyH.nil
    go_simp
    refine (sealerof k n _ Q.out.1.1 Q.out.1.2.1 yk).mono ?_
    rintro r x6 ⟨g, rfl, C, hg, hM⟩
    refine hK.out _ _ (hH.trans (hM.mono hH.size)) (fun hH => ?_)
    clear hK K
    replace V1 := var_below hM V1
    replace F9 := var_below hM F9
    clear hM
    have hne : g ≠ x.heap.size := by omega
    refine wpAnyH_ready (rs := [8]) (by kernel_rfl) (by simp) ?_
    refine AllReadyH.cons (by simp only [List.getElem?_toArray, List.getElem?_cons_succ, List.getElem?_cons_zero]; rfl) (fun K hK => ?_) AllReadyH.nil
    refine step_store_row (by rfl) _ _ _ (by rfl) (x.heap.size) (sc g (elt (enc (kf k) (zs 16))) (jb n)) (by rfl) (by rfl) 129 _ F9 (sc_info _ _ _ JL.out) (zsc_old _ _ _ JL.out) (sc_one _ _ _) ?_
    have g9l := hid (show w.heap.size < x.heap.size by have := hs9; omega)
    have BY := hid (below_row hH (g := x.heap.size) (by omega) (sc g (elt (enc (kf k) (zs 16))) (jb n)))
    refine hK.out _ _ BY.out (fun _ => ?_)
    clear hK K
    simp only [Act.put]
    have SY := hid (show Sv _ _ _ _ _ from setRow_heap _ (x.heap.size) _ (sc g (elt (enc (kf k) (zs 16))) (jb n)) _ _ F9)
    have CY := hid (C.rowFar (g' := x.heap.size) (sc g (elt (enc (kf k) (zs 16))) (jb n)) (by omega))
    have VY := hid ((setRow_other x6 (x.heap.size) w.heap.size (sc g (elt (enc (kf k) (zs 16))) (jb n)) (by omega)).trans V1)
    generalize hg9 : x.heap.size = g9 at *
    generalize x6.setRow g9 (sc g (elt (enc (kf k) (zs 16))) (jb n)) = y at *
    clear F9 V1 C hH hs9 hg9
    refine wpAnyH_done (by kernel_rfl) ?_ _
    go_wp2_with fail
    have V1 : y.drew.heap[w.heap.size]? = some (.cells #[.int .i64 0, .slice none 0 0] 32) := VY.out
    have S1 : Sv y.drew g9 _ _ _ := SY.out
    have C1 : Ar y.drew g _ _ := CY.out
    refine wp_region_held_drew (S := fun w' => Below w.heap.size w w') (by kernel_rfl) BY.out.drew (fun hH => ?_)
    refine wpAnyH_take (i := 0) (v := .slice (some ⟨b4, o4, none⟩) s.length c4) (by simp only [List.getElem?_toArray, List.getElem?_cons_zero]; rfl) (by kernel_rfl) (by kernel_rfl) (by kernel_rfl) (by intro _ _ _ h; exact h) (Or.inl ⟨by rfl, fun w hS => by go_simp⟩) hH ?_
    simp only [Act.put, List.setIfInBounds_toArray, List.set_cons_zero, List.set_cons_succ]
    refine wpAnyH_take (i := 1) (v := .int .i64 (m : Int)) (by simp only [List.getElem?_toArray, List.getElem?_cons_succ, List.getElem?_cons_zero]; rfl) (by kernel_rfl) (by kernel_rfl) (by kernel_rfl) (by intro _ _ _ h; exact h) (Or.inl ⟨by rfl, fun w hS => by go_simp⟩) hH ?_
    simp only [Act.put, List.setIfInBounds_toArray, List.set_cons_zero, List.set_cons_succ]
    refine wpAnyH_take (i := 2) (v := .slice (some ⟨b4, o4, none⟩) m c4) (by simp only [List.getElem?_toArray, List.getElem?_cons_succ, List.getElem?_cons_zero]; rfl) (by kernel_rfl) (by kernel_rfl) (by kernel_rfl) (by intro _ _ _ h; exact h) (Or.inl ⟨by rfl, fun w hS => by go_simp⟩) hH ?_
    simp only [Act.put, List.setIfInBounds_toArray, List.set_cons_zero, List.set_cons_succ]
    refine wpAnyH_take (i := 3) (v := .slice (some ⟨b4, o4, none⟩) s.length c4) (by simp only [List.getElem?_toArray, List.getElem?_cons_succ, List.getElem?_cons_zero]; rfl) (by kernel_rfl) (by kernel_rfl) (by kernel_rfl) (by intro _ _ _ h; exact h) (Or.inl ⟨by rfl, fun w hS => by go_simp⟩) hH ?_
    simp only [Act.put, List.setIfInBounds_toArray, List.set_cons_zero, List.set_cons_succ]
    refine wpAnyH_take (i := 4) (v := .int .i64 (m : Int)) (by simp only [List.getElem?_toArray, List.getElem?_cons_succ, List.getElem?_cons_zero]; rfl) (by kernel_rfl) (by kernel_rfl) (by kernel_rfl) (by intro _ _ _ h; exact h) (Or.inl ⟨by rfl, fun w hS => by go_simp⟩) hH ?_
    simp only [Act.put, List.setIfInBounds_toArray, List.set_cons_zero, List.set_cons_succ]
    refine wpAnyH_take (i := 5) (v := .slice (some ⟨b4, o4 + m, none⟩) 16 (c4 - m)) (by simp only [List.getElem?_toArray, List.getElem?_cons_succ, List.getElem?_cons_zero]; rfl) (by kernel_rfl) (by kernel_rfl) (by kernel_rfl) (by intro _ _ _ h; exact h) (Or.inl ⟨by rfl, fun w hS => by go_simp⟩) hH ?_
    simp only [Act.put, List.setIfInBounds_toArray, List.set_cons_zero, List.set_cons_succ]
    refine wpAnyH_take (i := 6) (v := .pointer (some ⟨b4, o4 + m, none⟩)) (by simp only [List.getElem?_toArray, List.getElem?_cons_succ, List.getElem?_cons_zero]; rfl) (by kernel_rfl) (by kernel_rfl) (by kernel_rfl) (by intro _ _ _ h; exact h) (Or.inl ⟨by rfl, fun w hS => by go_simp⟩) hH ?_
    simp only [Act.put, List.setIfInBounds_toArray, List.set_cons_zero, List.set_cons_succ]
    refine wpAnyH_take (i := 7) (v := .agg (arr (s.drop m))) (by simp only [List.getElem?_toArray, List.getElem?_cons_succ, List.getElem?_cons_zero]; rfl) (by kernel_rfl) (by kernel_rfl) (by kernel_rfl) (by intro _ _ _ h; exact h) (yieldsIf_load_mid (by rfl) _ _ rfl b4 (o4 + m) rfl ((s.drop m).map bv) _ (fun w hS => rangeAt.below RD.out hS) Try.underlying127 rfl (by rw [List.length_map, ← arr_size]; exact ZD.out)) hH ?_
    simp only [Act.put, List.setIfInBounds_toArray, List.set_cons_zero, List.set_cons_succ]
    generalize y.drew = x7 at hH V1 S1 C1 ⊢
    clear VY SY CY BY
    refine wpAnyH_ready (rs := [8]) (by kernel_rfl) (by simp) ?_
    refine AllReadyH.cons (by simp only [List.getElem?_toArray, List.getElem?_cons_succ, List.getElem?_cons_zero]; rfl) (fun K hK => ?_) AllReadyH.nil
    have T7 : Ar _ _ 127 (zs 16) := heap_alloc_new x7 (.cells #[.int .u8 0, .int .u8 0, .int .u8 0, .int .u8 0, .int .u8 0, .int .u8 0, .int .u8 0, .int .u8 0, .int .u8 0, .int .u8 0, .int .u8 0, .int .u8 0, .int .u8 0, .int .u8 0, .int .u8 0, .int .u8 0] 127)
    have l9 : g9 < x7.heap.size := var_lt S1
    have lc : g < x7.heap.size := C1.lt
    have lv : w.heap.size < x7.heap.size := var_lt V1
    replace V1 := var_alloc (.cells #[.int .u8 0, .int .u8 0, .int .u8 0, .int .u8 0, .int .u8 0, .int .u8 0, .int .u8 0, .int .u8 0, .int .u8 0, .int .u8 0, .int .u8 0, .int .u8 0, .int .u8 0, .int .u8 0, .int .u8 0, .int .u8 0] 127) V1
    replace S1 : Sv _ g9 _ _ _ := var_alloc (.cells #[.int .u8 0, .int .u8 0, .int .u8 0, .int .u8 0, .int .u8 0, .int .u8 0, .int .u8 0, .int .u8 0, .int .u8 0, .int .u8 0, .int .u8 0, .int .u8 0, .int .u8 0, .int .u8 0, .int .u8 0, .int .u8 0] 127) S1
    replace C1 := C1.alloc (.cells #[.int .u8 0, .int .u8 0, .int .u8 0, .int .u8 0, .int .u8 0, .int .u8 0, .int .u8 0, .int .u8 0, .int .u8 0, .int .u8 0, .int .u8 0, .int .u8 0, .int .u8 0, .int .u8 0, .int .u8 0, .int .u8 0] 127)
    go_simp
    refine hK.out _ _ (hH.alloc hH.size _) (fun hH => ?_)
    clear hK K
    refine wpAnyH_ready (rs := [9]) (by kernel_rfl) (by simp) ?_
    refine AllReadyH.cons (by simp only [List.getElem?_toArray, List.getElem?_cons_succ, List.getElem?_cons_zero]; rfl) (fun K hK => ?_) AllReadyH.nil
    go_simp
    refine hK.out _ _ hH (fun hH => ?_)
    clear hK K
    refine wpAnyH_ready (rs := [10]) (by kernel_rfl) (by simp) ?_
    refine AllReadyH.cons (by simp only [List.getElem?_toArray, List.getElem?_cons_succ, List.getElem?_cons_zero]; rfl) (fun K hK => ?_) AllReadyH.nil
    refine step_store_row (by rfl) _ _ _ (by rfl) x7.heap.size (arr (s.drop m)) (by rfl) (by rfl) 127 _ T7 ZD.out (by rw [arr_size, arr_size, zs_len, DLn.out]) (arr_one _) ?_
    have BZ := hid (below_row hH (g := x7.heap.size) (by omega) (arr (s.drop m)))
    refine hK.out _ _ BZ.out (fun _ => ?_)
    clear hK K
    simp only [Act.put]
    have TZ := hid (T7.row (l' := s.drop m))
    have CZ := hid (C1.rowFar (g' := x7.heap.size) (arr (s.drop m)) (by omega))
    have SZ := hid (show Sv _ _ _ _ _ from (setRow_other (x7.alloc (.cells #[.int .u8 0, .int .u8 0, .int .u8 0, .int .u8 0, .int .u8 0, .int .u8 0, .int .u8 0, .int .u8 0, .int .u8 0, .int .u8 0, .int .u8 0, .int .u8 0, .int .u8 0, .int .u8 0, .int .u8 0, .int .u8 0] 127)) x7.heap.size g9 (arr (s.drop m)) (by omega)).trans S1)
    have VZ := hid ((setRow_other (x7.alloc (.cells #[.int .u8 0, .int .u8 0, .int .u8 0, .int .u8 0, .int .u8 0, .int .u8 0, .int .u8 0, .int .u8 0, .int .u8 0, .int .u8 0, .int .u8 0, .int .u8 0, .int .u8 0, .int .u8 0, .int .u8 0, .int .u8 0] 127)) x7.heap.size w.heap.size (arr (s.drop m)) (by omega)).trans V1)
    clear T7 V1 S1 C1 hH l9 lc lv
    generalize (x7.alloc (.cells #[.int .u8 0, .int .u8 0, .int .u8 0, .int .u8 0, .int .u8 0, .int .u8 0, .int .u8 0, .int .u8 0, .int .u8 0, .int .u8 0, .int .u8 0, .int .u8 0, .int .u8 0, .int .u8 0, .int .u8 0, .int .u8 0] 127)).setRow x7.heap.size (arr (s.drop m)) = z at *
    generalize x7.heap.size = g12 at *
    refine wpAnyH_done (by kernel_rfl) ?_ _
    have TL := hid (tg_len (kf k) n e (s.take m) Q.out.1.2.1)
    have GB := guard_blk
    have NE : ∀ w, (binOp .neq 127 (.agg (arr (tg (kf k) n e (s.take m)))) (.agg (arr (s.drop m)))).run Try.prog w = .ok (.bool false) w := fun w => by rw [neq_blk _ _ TL.out DLn.out, HO.out]; simp
    have RS := hid (row_range SZ.out)
    have RT := hid (show z.rangeAt g12 0 ((s.drop m).map bv) from row_range TZ.out)
    go_wp2_with fail
    refine wp_region_held_drew (S := fun w' => Below z.heap.size z w') (by kernel_rfl) (Below.refl _ _).drew (fun hH => ?_)
    refine wpAnyH_take (i := 0) (v := .agg (sc g (elt (enc (kf k) (zs 16))) (jb n))) (by simp only [List.getElem?_toArray, List.getElem?_cons_zero]; rfl) (by kernel_rfl) (by kernel_rfl) (by kernel_rfl) (by intro _ _ _ h; exact h) (yieldsIf_load_mid (by rfl) _ _ rfl g9 0 rfl (sc g (elt (enc (kf k) (zs 16))) (jb n)).toList _ (fun w hS => rangeAt.below RS.out hS) Try.underlying129 rfl (by rw [Array.length_toList]; exact sc_info _ _ _ JL.out)) hH ?_
    simp only [Act.put, List.setIfInBounds_toArray, List.set_cons_zero, List.set_cons_succ]
    refine wpAnyH_take (i := 1) (v := .slice p3 e.length c3) (by simp only [List.getElem?_toArray, List.getElem?_cons_succ, List.getElem?_cons_zero]; rfl) (by kernel_rfl) (by kernel_rfl) (by kernel_rfl) (by intro _ _ _ h; exact h) (Or.inl ⟨by rfl, fun w hS => by go_simp⟩) hH ?_
    simp only [Act.put, List.setIfInBounds_toArray, List.set_cons_zero, List.set_cons_succ]
    refine wpAnyH_take (i := 2) (v := .slice (some ⟨b4, o4, none⟩) m c4) (by simp only [List.getElem?_toArray, List.getElem?_cons_succ, List.getElem?_cons_zero]; rfl) (by kernel_rfl) (by kernel_rfl) (by kernel_rfl) (by intro _ _ _ h; exact h) (Or.inl ⟨by rfl, fun w hS => by go_simp⟩) hH ?_
    simp only [Act.put, List.setIfInBounds_toArray, List.set_cons_zero, List.set_cons_succ]
    refine wpAnyH_take (i := 4) (v := .agg (arr (s.drop m))) (by simp only [List.getElem?_toArray, List.getElem?_cons_succ, List.getElem?_cons_zero]; rfl) (by kernel_rfl) (by kernel_rfl) (by kernel_rfl) (by intro _ _ _ h; exact h) (yieldsIf_load_mid (by rfl) _ _ rfl g12 0 rfl ((s.drop m).map bv) _ (fun w hS => rangeAt.below RT.out hS) Try.underlying127 rfl (by rw [List.length_map, ← arr_size]; exact ZD.out)) hH ?_
    simp only [Act.put, List.setIfInBounds_toArray, List.set_cons_zero, List.set_cons_succ]
    refine wpAnyH_ready (rs := [3]) (by kernel_rfl) (by simp) ?_
    refine AllReadyH.cons (by simp only [List.getElem?_toArray, List.getElem?_cons_succ, List.getElem?_cons_zero]; rfl) (fun K hK => ?_) AllReadyH.nil
    go_simp
    refine (itag g n _ _ e (s.take m) (kf k) _ (CZ.out.below hH) HF.out Q.out.1.2.1 yn ((HE.out.below BZ.out).below hH) ((PT.out.below BZ.out).below hH) ye TY.out (by have := Q.out.1.2.2; omega) (by rw [TLn.out]; omega)).mono ?_
    rintro r y2 ⟨rfl, hM⟩
    refine hK.out _ _ (hH.trans (hM.mono hH.size)) (fun hH => ?_)
    clear hK K hM
    refine wpAnyH_ready (rs := [5]) (by kernel_rfl) (by simp) ?_
    refine AllReadyH.cons (by simp only [List.getElem?_toArray, List.getElem?_cons_succ, List.getElem?_cons_zero]; rfl) (fun K hK => ?_) AllReadyH.nil
    go_simp
    refine hK.out _ _ hH (fun hH => ?_)
    clear hK K
    have VY := hid (var_below hH VZ.out)
    have SY := hid (SZ.out.below hH)
    have CY := hid (CZ.out.below hH)
    have BY := hid (BZ.out.trans (hH.mono BZ.out.size))
    clear VZ SZ CZ BZ TZ RS RT hH NE
    refine wpAnyH_done (by kernel_rfl) ?_ _
    go_wp2_with (refine wpList_load_row rfl 129 _ rfl g9 rfl 129 (sc g (elt (enc (kf k) (zs 16))) (jb n)) _ _ SY.out Try.underlying129 rfl (sc_info _ _ _ JL.out) ?_)
    refine (ihide g _ n _ (s.take m) (kf k) _ CY.out HF.out Q.out.1.2.1 yn (PT.out.below BY.out) TY.out (by rw [TLn.out]; omega)).mono ?_
    rintro r y1 ⟨v1, rfl, O1, hM⟩
    have ZY := hid (show w.heap.size < y2.heap.size from var_lt VY.out)
    have V4 := var_below hM VY.out
    have B4 := BY.out.trans (hM.mono BY.out.size)
    clear hM VY SY CY BY
    obtain ⟨f1, f2, f3, f4⟩ := var2_facts V4
    obtain ⟨q4, d4, e4, -, -, -⟩ := O1.rd.parts
    generalize (hid1 (kf k) n (s.take m)).length = m4 at e4
    subst e4
    have hset := hid (var2_set (x' := .int .i64 0) (y' := .slice q4 m4 d4) V4)
    have hbel := hid (below_set2 (x := .int .i64 0) (y := .slice q4 m4 d4) B4 (Nat.le_refl _))
    have hown := hid ((O1.set2 (g := w.heap.size) (x := .int .i64 0) (y := .slice q4 m4 d4) ZY.out).mono (base' := w.heap.size) (Nat.le_of_lt ZY.out)).x
    clear V4 B4 O1
    go_wp2
    exact bodyPost_ret (v := .agg #[.int .i64 0, .slice q4 m4 d4]) (results_cell_row rfl _ _ w.heap.size 32 _ _ _ rfl hset.out Try.underlying32 rfl (by kernel_rfl)) rfl ⟨_, rfl, hown.out, hbel.out⟩
  exact AllReadyH.nil

set_option maxHeartbeats 2000000 in
set_option maxRecDepth 100000 in
theorem iop_bad (vk vn ve vp : Value) (k n e s : List Nat) (w : World) (hk : Rd w vk k) (hn : Rd w vn n) (he : Rd w ve e) (hp : Rd w vp s) (yk : Byt k) (yn : Byt n) (ye : Byt e) (yp : Byt s) (h : opOk k n e s = true) (m : Nat) (hm : s.length = m + 16) (ho : tg (kf k) n e (s.take m) ≠ s.drop m) :
    Calls Try.prog 75 #[vk, vn, ve, vp] w fun r w' => r = .returned (.agg #[.int .i64 9, .slice none 0 0]) ∧ Below w.heap.size w w' := by
  have Q := hid (opOk_parts h)
  have A := hid (show askd k n e = true by simp only [opOk, Bool.and_eq_true] at h; exact h.1)
  obtain ⟨b1, o1, c1, e1, -, -⟩ := hk.spot (by have := Q.out.1.1; omega)
  obtain ⟨b2, o2, c2, e2, -, -⟩ := hn.spot (by have := Q.out.1.2.1; omega)
  obtain ⟨p3, c3, rfl, -, -, -⟩ := he.parts
  obtain ⟨b4, o4, c4, rfl, hc4, -⟩ := hp.spot (by omega)
  subst e1 e2
  have WI := hid (show inB (s.length : Int) 0 616 = true by unfold inB; rw [decide_eq_true (by have := Q.out.2; omega)])
  have HK := hid hk
  have HN := hid hn
  have HE := hid he
  have HP := hid hp
  have V0 := hid (heap_alloc_new w (.cells #[.int .i64 0, .slice none 0 0] 32))
  have B0 := hid (below_alloc1 w (.cells #[.int .i64 0, .slice none 0 0] 32))
  have ZK := hid (key_size k Q.out.1.1)
  have ZN := hid (show (Try.prog.info? 131).map (·.size) = some (arr n).size by rw [arr_size, Q.out.1.2.1]; kernel_rfl)
  have RK := hid (rd_range hk)
  have RN := hid (rd_range hn)
  have JL := hid (jb_len n Q.out.1.2.1)
  have HF := hid (kf_lt k yk)
  have PT := hid (rd_piece hp 0 m (by omega))
  rw [Nat.add_zero, Nat.sub_zero, sub_take] at PT
  have PD := hid (rd_piece hp m 16 (by omega))
  rw [sub_drop s m 16 (by omega)] at PD
  have TLn := hid (show (s.take m).length = m by rw [List.length_take]; omega)
  have DLn := hid (show (s.drop m).length = 16 by rw [List.length_drop]; omega)
  have TY := hid (show Byt (s.take m) from fun x hx => yp x (List.mem_of_mem_take hx))
  have RU := run_upto b4 o4 s.length c4 m (by omega) (by omega)
  have RF := run_from b4 o4 s.length c4 m (by omega) (by omega)
  rw [show s.length - m = 16 by omega] at RF
  have ws : IntKind.i64.wrap ((s.length : Int) - 16) = (m : Int) := by have hq := Q.out.2; rw [IntKind.wrap_i64]; omega
  have es : (s.length : Int) - 16 = (m : Int) := by omega
  have m0 : ¬ (m : Int) < 0 := by omega
  have MM := hid (show m ≤ 600 by have := Q.out.2; omega)
  have mb : m ≤ 600 := MM.out
  have HO := hid ho
  have P3 := arr_at 127 5 16 Try.underlying127 (some ⟨b4, o4 + m, none⟩) 16 (c4 - m) (Nat.le_refl _)
  have RD := hid (rd_range PD.out)
  have ZD := hid (blk_size (s.drop m) DLn.out)
  clear hk hn he hp h hm ho hc4
  go_enter Try.func75, Try.ntmps75
  go_wp2_with fail
  refine (sfits _ _ _ _ _ _ k n e _).mono ?_
  rintro r W ⟨rfl, hM⟩
  rw [A.out]
  replace V0 := hid (var_below hM V0.out)
  replace B0 := hid (B0.out.trans (hM.mono B0.out.size))
  clear hM
  go_wp2_with fail
  refine (within1 (s.length : Int) 0 616 W.heap.size _ (heap_alloc_new W _)).mono ?_
  rintro r w3 ⟨rfl, hM⟩
  rw [WI.out]
  replace hM := (below_alloc1 W (.cells #[.int .i64 (s.length : Int), .int .i64 0, .int .i64 616] 70)).trans (hM.mono (by simp))
  replace V0 := hid (var_below hM V0.out)
  replace B0 := hid (B0.out.trans (hM.mono B0.out.size))
  clear hM
  have P1 := arr_at 91 5 16 Try.underlying91 (some ⟨b1, o1, none⟩) k.length c1 (by rw [Q.out.1.1]; omega)
  have P2 := arr_at 131 5 12 Try.underlying131 (some ⟨b2, o2, none⟩) n.length c2 (by rw [Q.out.1.2.1]; omega)
  go_wp2_with fail
  have V1 : w3.drew.heap[w.heap.size]? = some (.cells #[.int .i64 0, .slice none 0 0] 32) := V0.out
  refine wp_region_held_drew (S := fun w' => Below w.heap.size w w') (by kernel_rfl) B0.out.drew (fun hH => ?_)
  refine wpAnyH_take (i := 0) (v := .slice (some ⟨b1, o1, none⟩) k.length c1) (by simp only [List.getElem?_toArray, List.getElem?_cons_zero]; rfl) (by kernel_rfl) (by kernel_rfl) (by kernel_rfl) (by intro _ _ _ h; exact h) (Or.inl ⟨by rfl, fun w hS => by go_simp⟩) hH ?_
  simp only [Act.put, List.setIfInBounds_toArray, List.set_cons_zero, List.set_cons_succ]
  refine wpAnyH_take (i := 1) (v := .pointer (some ⟨b1, o1, none⟩)) (by simp only [List.getElem?_toArray, List.getElem?_cons_succ, List.getElem?_cons_zero]; rfl) (by kernel_rfl) (by kernel_rfl) (by kernel_rfl) (by intro _ _ _ h; exact h) (Or.inl ⟨by rfl, fun w hS => by go_simp⟩) hH ?_
  simp only [Act.put, List.setIfInBounds_toArray, List.set_cons_zero, List.set_cons_succ]
  refine wpAnyH_take (i := 2) (v := .agg (arr k)) (by simp only [List.getElem?_toArray, List.getElem?_cons_succ, List.getElem?_cons_zero]; rfl) (by kernel_rfl) (by kernel_rfl) (by kernel_rfl) (by intro _ _ _ h; exact h) (yieldsIf_load_mid (by rfl) _ _ rfl b1 o1 rfl (k.map bv) _ (fun w hS => rangeAt.below RK.out hS) Try.underlying91 rfl (by rw [List.length_map, ← arr_size]; exact ZK.out)) hH ?_
  simp only [Act.put, List.setIfInBounds_toArray, List.set_cons_zero, List.set_cons_succ]
  refine wpAnyH_take (i := 3) (v := .slice (some ⟨b2, o2, none⟩) n.length c2) (by simp only [List.getElem?_toArray, List.getElem?_cons_succ, List.getElem?_cons_zero]; rfl) (by kernel_rfl) (by kernel_rfl) (by kernel_rfl) (by intro _ _ _ h; exact h) (Or.inl ⟨by rfl, fun w hS => by go_simp⟩) hH ?_
  simp only [Act.put, List.setIfInBounds_toArray, List.set_cons_zero, List.set_cons_succ]
  refine wpAnyH_take (i := 4) (v := .pointer (some ⟨b2, o2, none⟩)) (by simp only [List.getElem?_toArray, List.getElem?_cons_succ, List.getElem?_cons_zero]; rfl) (by kernel_rfl) (by kernel_rfl) (by kernel_rfl) (by intro _ _ _ h; exact h) (Or.inl ⟨by rfl, fun w hS => by go_simp⟩) hH ?_
  simp only [Act.put, List.setIfInBounds_toArray, List.set_cons_zero, List.set_cons_succ]
  refine wpAnyH_take (i := 5) (v := .agg (arr n)) (by simp only [List.getElem?_toArray, List.getElem?_cons_succ, List.getElem?_cons_zero]; rfl) (by kernel_rfl) (by kernel_rfl) (by kernel_rfl) (by intro _ _ _ h; exact h) (yieldsIf_load_mid (by rfl) _ _ rfl b2 o2 rfl (n.map bv) _ (fun w hS => rangeAt.below RN.out hS) Try.underlying131 rfl (by rw [List.length_map, ← arr_size]; exact ZN.out)) hH ?_
  simp only [Act.put, List.setIfInBounds_toArray, List.set_cons_zero, List.set_cons_succ]
  generalize w3.drew = x at hH V1 ⊢
  refine wpAnyH_ready (rs := [6, 7]) (by kernel_rfl) (by simp) ?_
  refine AllReadyH.cons (by simp only [List.getElem?_toArray, List.getElem?_cons_succ, List.getElem?_cons_zero]; rfl) (fun K hK => ?_) ?_
  · go_simp
    refine (sealerof k n _ Q.out.1.1 Q.out.1.2.1 yk).mono ?_
    rintro r x6 ⟨g, rfl, C, hg, hM⟩
    refine hK.out _ _ (hH.trans (hM.mono hH.size)) (fun hH => ?_)
    clear hK K
    replace V1 := var_below hM V1
    have hg2 := hg
    clear hM
    have hcl := C.lt
    refine wpAnyH_ready (rs := [7]) (by kernel_rfl) (by simp) ?_
    refine AllReadyH.cons (by simp only [List.getElem?_toArray, List.getElem?_cons_succ, List.getElem?_cons_zero]; rfl) (fun K hK => ?_) AllReadyH.nil
    have F9 := heap_alloc_new x6 (.cells #[.pointer none, .int .u64 0, .int .u64 0, .int .u8 0, .int .u8 0, .int .u8 0, .int .u8 0, .int .u8 0, .int .u8 0, .int .u8 0, .int .u8 0, .int .u8 0, .int .u8 0, .int .u8 0, .int .u8 0, .int .u8 0, .int .u8 0, .int .u8 0, .int .u8 0] 129)
    have hs9 := var_lt V1
    have hz := hH.size
    replace V1 := var_alloc (.cells #[.pointer none, .int .u64 0, .int .u64 0, .int .u8 0, .int .u8 0, .int .u8 0, .int .u8 0, .int .u8 0, .int .u8 0, .int .u8 0, .int .u8 0, .int .u8 0, .int .u8 0, .int .u8 0, .int .u8 0, .int .u8 0, .int .u8 0, .int .u8 0, .int .u8 0] 129) V1
    replace C := C.alloc (.cells #[.pointer none, .int .u64 0, .int .u64 0, .int .u8 0, .int .u8 0, .int .u8 0, .int .u8 0, .int .u8 0, .int .u8 0, .int .u8 0, .int .u8 0, .int .u8 0, .int .u8 0, .int .u8 0, .int .u8 0, .int .u8 0, .int .u8 0, .int .u8 0, .int .u8 0] 129)
    go_simp
    refine hK.out _ _ (hH.alloc hH.size _) (fun hH => ?_)
    clear hK K
    have hne : g ≠ x6.heap.size := by omega
    refine wpAnyH_ready (rs := [8]) (by kernel_rfl) (by simp) ?_
    refine AllReadyH.cons (by simp only [List.getElem?_toArray, List.getElem?_cons_succ, List.getElem?_cons_zero]; rfl) (fun K hK => ?_) AllReadyH.nil
    refine step_store_row (by rfl) _ _ _ (by rfl) (x6.heap.size) (sc g (elt (enc (kf k) (zs 16))) (jb n)) (by rfl) (by rfl) 129 _ F9 (sc_info _ _ _ JL.out) (zsc_old _ _ _ JL.out) (sc_one _ _ _) ?_
    have g9l := hid (show w.heap.size < x6.heap.size by have := hs9; omega)
    have BY := hid (below_row hH (g := x6.heap.size) (by omega) (sc g (elt (enc (kf k) (zs 16))) (jb n)))
    refine hK.out _ _ BY.out (fun _ => ?_)
    clear hK K
    simp only [Act.put]
    have SY := hid (show Sv _ _ _ _ _ from setRow_heap _ (x6.heap.size) _ (sc g (elt (enc (kf k) (zs 16))) (jb n)) _ _ F9)
    have CY := hid (C.rowFar (g' := x6.heap.size) (sc g (elt (enc (kf k) (zs 16))) (jb n)) (by omega))
    have VY := hid ((setRow_other (x6.alloc (.cells #[.pointer none, .int .u64 0, .int .u64 0, .int .u8 0, .int .u8 0, .int .u8 0, .int .u8 0, .int .u8 0, .int .u8 0, .int .u8 0, .int .u8 0, .int .u8 0, .int .u8 0, .int .u8 0, .int .u8 0, .int .u8 0, .int .u8 0, .int .u8 0, .int .u8 0] 129)) (x6.heap.size) w.heap.size (sc g (elt (enc (kf k) (zs 16))) (jb n)) (by omega)).trans V1)
    generalize hg9 : x6.heap.size = g9 at *
    generalize (x6.alloc (.cells #[.pointer none, .int .u64 0, .int .u64 0, .int .u8 0, .int .u8 0, .int .u8 0, .int .u8 0, .int .u8 0, .int .u8 0, .int .u8 0, .int .u8 0, .int .u8 0, .int .u8 0, .int .u8 0, .int .u8 0, .int .u8 0, .int .u8 0, .int .u8 0, .int .u8 0] 129)).setRow g9 (sc g (elt (enc (kf k) (zs 16))) (jb n)) = y at *
    clear F9 V1 C hH hs9 hg9
    refine wpAnyH_done (by kernel_rfl) ?_ _
    go_wp2_with fail
    have V1 : y.drew.heap[w.heap.size]? = some (.cells #[.int .i64 0, .slice none 0 0] 32) := VY.out
    have S1 : Sv y.drew g9 _ _ _ := SY.out
    have C1 : Ar y.drew g _ _ := CY.out
    refine wp_region_held_drew (S := fun w' => Below w.heap.size w w') (by kernel_rfl) BY.out.drew (fun hH => ?_)
    refine wpAnyH_take (i := 0) (v := .slice (some ⟨b4, o4, none⟩) s.length c4) (by simp only [List.getElem?_toArray, List.getElem?_cons_zero]; rfl) (by kernel_rfl) (by kernel_rfl) (by kernel_rfl) (by intro _ _ _ h; exact h) (Or.inl ⟨by rfl, fun w hS => by go_simp⟩) hH ?_
    simp only [Act.put, List.setIfInBounds_toArray, List.set_cons_zero, List.set_cons_succ]
    refine wpAnyH_take (i := 1) (v := .int .i64 (m : Int)) (by simp only [List.getElem?_toArray, List.getElem?_cons_succ, List.getElem?_cons_zero]; rfl) (by kernel_rfl) (by kernel_rfl) (by kernel_rfl) (by intro _ _ _ h; exact h) (Or.inl ⟨by rfl, fun w hS => by go_simp⟩) hH ?_
    simp only [Act.put, List.setIfInBounds_toArray, List.set_cons_zero, List.set_cons_succ]
    refine wpAnyH_take (i := 2) (v := .slice (some ⟨b4, o4, none⟩) m c4) (by simp only [List.getElem?_toArray, List.getElem?_cons_succ, List.getElem?_cons_zero]; rfl) (by kernel_rfl) (by kernel_rfl) (by kernel_rfl) (by intro _ _ _ h; exact h) (Or.inl ⟨by rfl, fun w hS => by go_simp⟩) hH ?_
    simp only [Act.put, List.setIfInBounds_toArray, List.set_cons_zero, List.set_cons_succ]
    refine wpAnyH_take (i := 3) (v := .slice (some ⟨b4, o4, none⟩) s.length c4) (by simp only [List.getElem?_toArray, List.getElem?_cons_succ, List.getElem?_cons_zero]; rfl) (by kernel_rfl) (by kernel_rfl) (by kernel_rfl) (by intro _ _ _ h; exact h) (Or.inl ⟨by rfl, fun w hS => by go_simp⟩) hH ?_
    simp only [Act.put, List.setIfInBounds_toArray, List.set_cons_zero, List.set_cons_succ]
    refine wpAnyH_take (i := 4) (v := .int .i64 (m : Int)) (by simp only [List.getElem?_toArray, List.getElem?_cons_succ, List.getElem?_cons_zero]; rfl) (by kernel_rfl) (by kernel_rfl) (by kernel_rfl) (by intro _ _ _ h; exact h) (Or.inl ⟨by rfl, fun w hS => by go_simp⟩) hH ?_
    simp only [Act.put, List.setIfInBounds_toArray, List.set_cons_zero, List.set_cons_succ]
    refine wpAnyH_take (i := 5) (v := .slice (some ⟨b4, o4 + m, none⟩) 16 (c4 - m)) (by simp only [List.getElem?_toArray, List.getElem?_cons_succ, List.getElem?_cons_zero]; rfl) (by kernel_rfl) (by kernel_rfl) (by kernel_rfl) (by intro _ _ _ h; exact h) (Or.inl ⟨by rfl, fun w hS => by go_simp⟩) hH ?_
    simp only [Act.put, List.setIfInBounds_toArray, List.set_cons_zero, List.set_cons_succ]
    refine wpAnyH_take (i := 6) (v := .pointer (some ⟨b4, o4 + m, none⟩)) (by simp only [List.getElem?_toArray, List.getElem?_cons_succ, List.getElem?_cons_zero]; rfl) (by kernel_rfl) (by kernel_rfl) (by kernel_rfl) (by intro _ _ _ h; exact h) (Or.inl ⟨by rfl, fun w hS => by go_simp⟩) hH ?_
    simp only [Act.put, List.setIfInBounds_toArray, List.set_cons_zero, List.set_cons_succ]
    refine wpAnyH_take (i := 7) (v := .agg (arr (s.drop m))) (by simp only [List.getElem?_toArray, List.getElem?_cons_succ, List.getElem?_cons_zero]; rfl) (by kernel_rfl) (by kernel_rfl) (by kernel_rfl) (by intro _ _ _ h; exact h) (yieldsIf_load_mid (by rfl) _ _ rfl b4 (o4 + m) rfl ((s.drop m).map bv) _ (fun w hS => rangeAt.below RD.out hS) Try.underlying127 rfl (by rw [List.length_map, ← arr_size]; exact ZD.out)) hH ?_
    simp only [Act.put, List.setIfInBounds_toArray, List.set_cons_zero, List.set_cons_succ]
    generalize y.drew = x7 at hH V1 S1 C1 ⊢
    clear VY SY CY BY
    refine wpAnyH_ready (rs := [8]) (by kernel_rfl) (by simp) ?_
    refine AllReadyH.cons (by simp only [List.getElem?_toArray, List.getElem?_cons_succ, List.getElem?_cons_zero]; rfl) (fun K hK => ?_) AllReadyH.nil
    have T7 : Ar _ _ 127 (zs 16) := heap_alloc_new x7 (.cells #[.int .u8 0, .int .u8 0, .int .u8 0, .int .u8 0, .int .u8 0, .int .u8 0, .int .u8 0, .int .u8 0, .int .u8 0, .int .u8 0, .int .u8 0, .int .u8 0, .int .u8 0, .int .u8 0, .int .u8 0, .int .u8 0] 127)
    have l9 : g9 < x7.heap.size := var_lt S1
    have lc : g < x7.heap.size := C1.lt
    have lv : w.heap.size < x7.heap.size := var_lt V1
    replace V1 := var_alloc (.cells #[.int .u8 0, .int .u8 0, .int .u8 0, .int .u8 0, .int .u8 0, .int .u8 0, .int .u8 0, .int .u8 0, .int .u8 0, .int .u8 0, .int .u8 0, .int .u8 0, .int .u8 0, .int .u8 0, .int .u8 0, .int .u8 0] 127) V1
    replace S1 : Sv _ g9 _ _ _ := var_alloc (.cells #[.int .u8 0, .int .u8 0, .int .u8 0, .int .u8 0, .int .u8 0, .int .u8 0, .int .u8 0, .int .u8 0, .int .u8 0, .int .u8 0, .int .u8 0, .int .u8 0, .int .u8 0, .int .u8 0, .int .u8 0, .int .u8 0] 127) S1
    replace C1 := C1.alloc (.cells #[.int .u8 0, .int .u8 0, .int .u8 0, .int .u8 0, .int .u8 0, .int .u8 0, .int .u8 0, .int .u8 0, .int .u8 0, .int .u8 0, .int .u8 0, .int .u8 0, .int .u8 0, .int .u8 0, .int .u8 0, .int .u8 0] 127)
    go_simp
    refine hK.out _ _ (hH.alloc hH.size _) (fun hH => ?_)
    clear hK K
    refine wpAnyH_ready (rs := [9]) (by kernel_rfl) (by simp) ?_
    refine AllReadyH.cons (by simp only [List.getElem?_toArray, List.getElem?_cons_succ, List.getElem?_cons_zero]; rfl) (fun K hK => ?_) AllReadyH.nil
    go_simp
    refine hK.out _ _ hH (fun hH => ?_)
    clear hK K
    refine wpAnyH_ready (rs := [10]) (by kernel_rfl) (by simp) ?_
    refine AllReadyH.cons (by simp only [List.getElem?_toArray, List.getElem?_cons_succ, List.getElem?_cons_zero]; rfl) (fun K hK => ?_) AllReadyH.nil
    refine step_store_row (by rfl) _ _ _ (by rfl) x7.heap.size (arr (s.drop m)) (by rfl) (by rfl) 127 _ T7 ZD.out (by rw [arr_size, arr_size, zs_len, DLn.out]) (arr_one _) ?_
    have BZ := hid (below_row hH (g := x7.heap.size) (by omega) (arr (s.drop m)))
    refine hK.out _ _ BZ.out (fun _ => ?_)
    clear hK K
    simp only [Act.put]
    have TZ := hid (T7.row (l' := s.drop m))
    have CZ := hid (C1.rowFar (g' := x7.heap.size) (arr (s.drop m)) (by omega))
    have SZ := hid (show Sv _ _ _ _ _ from (setRow_other (x7.alloc (.cells #[.int .u8 0, .int .u8 0, .int .u8 0, .int .u8 0, .int .u8 0, .int .u8 0, .int .u8 0, .int .u8 0, .int .u8 0, .int .u8 0, .int .u8 0, .int .u8 0, .int .u8 0, .int .u8 0, .int .u8 0, .int .u8 0] 127)) x7.heap.size g9 (arr (s.drop m)) (by omega)).trans S1)
    have VZ := hid ((setRow_other (x7.alloc (.cells #[.int .u8 0, .int .u8 0, .int .u8 0, .int .u8 0, .int .u8 0, .int .u8 0, .int .u8 0, .int .u8 0, .int .u8 0, .int .u8 0, .int .u8 0, .int .u8 0, .int .u8 0, .int .u8 0, .int .u8 0, .int .u8 0] 127)) x7.heap.size w.heap.size (arr (s.drop m)) (by omega)).trans V1)
    clear T7 V1 S1 C1 hH l9 lc lv
    generalize (x7.alloc (.cells #[.int .u8 0, .int .u8 0, .int .u8 0, .int .u8 0, .int .u8 0, .int .u8 0, .int .u8 0, .int .u8 0, .int .u8 0, .int .u8 0, .int .u8 0, .int .u8 0, .int .u8 0, .int .u8 0, .int .u8 0, .int .u8 0] 127)).setRow x7.heap.size (arr (s.drop m)) = z at *
    generalize x7.heap.size = g12 at *
    refine wpAnyH_done (by kernel_rfl) ?_ _
    have TL := hid (tg_len (kf k) n e (s.take m) Q.out.1.2.1)
    have GB := guard_blk
    have NE : ∀ w, (binOp .neq 127 (.agg (arr (tg (kf k) n e (s.take m)))) (.agg (arr (s.drop m)))).run Try.prog w = .ok (.bool true) w := fun w => by rw [neq_blk _ _ TL.out DLn.out, show ((tg (kf k) n e (s.take m)) == s.drop m) = false by simpa using HO.out]; rfl
    have RS := hid (row_range SZ.out)
    have RT := hid (show z.rangeAt g12 0 ((s.drop m).map bv) from row_range TZ.out)
    go_wp2_with fail
    refine wp_region_held_drew (S := fun w' => Below z.heap.size z w') (by kernel_rfl) (Below.refl _ _).drew (fun hH => ?_)
    refine wpAnyH_take (i := 0) (v := .agg (sc g (elt (enc (kf k) (zs 16))) (jb n))) (by simp only [List.getElem?_toArray, List.getElem?_cons_zero]; rfl) (by kernel_rfl) (by kernel_rfl) (by kernel_rfl) (by intro _ _ _ h; exact h) (yieldsIf_load_mid (by rfl) _ _ rfl g9 0 rfl (sc g (elt (enc (kf k) (zs 16))) (jb n)).toList _ (fun w hS => rangeAt.below RS.out hS) Try.underlying129 rfl (by rw [Array.length_toList]; exact sc_info _ _ _ JL.out)) hH ?_
    simp only [Act.put, List.setIfInBounds_toArray, List.set_cons_zero, List.set_cons_succ]
    refine wpAnyH_take (i := 1) (v := .slice p3 e.length c3) (by simp only [List.getElem?_toArray, List.getElem?_cons_succ, List.getElem?_cons_zero]; rfl) (by kernel_rfl) (by kernel_rfl) (by kernel_rfl) (by intro _ _ _ h; exact h) (Or.inl ⟨by rfl, fun w hS => by go_simp⟩) hH ?_
    simp only [Act.put, List.setIfInBounds_toArray, List.set_cons_zero, List.set_cons_succ]
    refine wpAnyH_take (i := 2) (v := .slice (some ⟨b4, o4, none⟩) m c4) (by simp only [List.getElem?_toArray, List.getElem?_cons_succ, List.getElem?_cons_zero]; rfl) (by kernel_rfl) (by kernel_rfl) (by kernel_rfl) (by intro _ _ _ h; exact h) (Or.inl ⟨by rfl, fun w hS => by go_simp⟩) hH ?_
    simp only [Act.put, List.setIfInBounds_toArray, List.set_cons_zero, List.set_cons_succ]
    refine wpAnyH_take (i := 4) (v := .agg (arr (s.drop m))) (by simp only [List.getElem?_toArray, List.getElem?_cons_succ, List.getElem?_cons_zero]; rfl) (by kernel_rfl) (by kernel_rfl) (by kernel_rfl) (by intro _ _ _ h; exact h) (yieldsIf_load_mid (by rfl) _ _ rfl g12 0 rfl ((s.drop m).map bv) _ (fun w hS => rangeAt.below RT.out hS) Try.underlying127 rfl (by rw [List.length_map, ← arr_size]; exact ZD.out)) hH ?_
    simp only [Act.put, List.setIfInBounds_toArray, List.set_cons_zero, List.set_cons_succ]
    refine wpAnyH_ready (rs := [3]) (by kernel_rfl) (by simp) ?_
    refine AllReadyH.cons (by simp only [List.getElem?_toArray, List.getElem?_cons_succ, List.getElem?_cons_zero]; rfl) (fun K hK => ?_) AllReadyH.nil
    go_simp
    refine (itag g n _ _ e (s.take m) (kf k) _ (CZ.out.below hH) HF.out Q.out.1.2.1 yn ((HE.out.below BZ.out).below hH) ((PT.out.below BZ.out).below hH) ye TY.out (by have := Q.out.1.2.2; omega) (by rw [TLn.out]; omega)).mono ?_
    rintro r y2 ⟨rfl, hM⟩
    refine hK.out _ _ (hH.trans (hM.mono hH.size)) (fun hH => ?_)
    clear hK K hM
    refine wpAnyH_ready (rs := [5]) (by kernel_rfl) (by simp) ?_
    refine AllReadyH.cons (by simp only [List.getElem?_toArray, List.getElem?_cons_succ, List.getElem?_cons_zero]; rfl) (fun K hK => ?_) AllReadyH.nil
    go_simp
    refine hK.out _ _ hH (fun hH => ?_)
    clear hK K
    have VY := hid (var_below hH VZ.out)
    have SY := hid (SZ.out.below hH)
    have CY := hid (CZ.out.below hH)
    have BY := hid (BZ.out.trans (hH.mono BZ.out.size))
    clear VZ SZ CZ BZ TZ RS RT hH NE
    refine wpAnyH_done (by kernel_rfl) ?_ _
    obtain ⟨f1, f2, f3, f4⟩ := var2_facts VY.out
    have hset := hid (var2_set (x' := .int .i64 9) (y' := .slice none 0 0) VY.out)
    have hbel := hid (below_set2 (x := .int .i64 9) (y := .slice none 0 0) BY.out (Nat.le_refl _))
    go_wp2
    exact bodyPost_ret (v := .agg #[.int .i64 9, .slice none 0 0]) (results_cell_row rfl _ _ w.heap.size 32 _ _ _ rfl hset.out Try.underlying32 rfl (by kernel_rfl)) rfl ⟨rfl, hbel.out⟩
  refine AllReadyH.cons (by simp only [List.getElem?_toArray, List.getElem?_cons_succ, List.getElem?_cons_zero]; rfl) (fun K hK => ?_) ?_
  · have F9 := heap_alloc_new x (.cells #[.pointer none, .int .u64 0, .int .u64 0, .int .u8 0, .int .u8 0, .int .u8 0, .int .u8 0, .int .u8 0, .int .u8 0, .int .u8 0, .int .u8 0, .int .u8 0, .int .u8 0, .int .u8 0, .int .u8 0, .int .u8 0, .int .u8 0, .int .u8 0, .int .u8 0] 129)
    have hs9 := var_lt V1
    have hz := hH.size
    replace V1 := var_alloc (.cells #[.pointer none, .int .u64 0, .int .u64 0, .int .u8 0, .int .u8 0, .int .u8 0, .int .u8 0, .int .u8 0, .int .u8 0, .int .u8 0, .int .u8 0, .int .u8 0, .int .u8 0, .int .u8 0, .int .u8 0, .int .u8 0, .int .u8 0, .int .u8 0, .int .u8 0] 129) V1
    go_simp
    refine hK.out _ _ (hH.alloc hH.size _) (fun hH => ?_)
    clear hK K
    have hsx : (x.alloc (.cells #[.pointer none, .int .u64 0, .int .u64 0, .int .u8 0, .int .u8 0, .int .u8 0, .int .u8 0, .int .u8 0, .int .u8 0, .int .u8 0, .int .u8 0, .int .u8 0, .int .u8 0, .int .u8 0, .int .u8 0, .int .u8 0, .int .u8 0, .int .u8 0, .int .u8 0] 129)).heap.size = x.heap.size + 1 := by simp
    refine wpAnyH_ready (rs := [6]) (by kernel_rfl) (by simp) ?_
    refine AllReadyH.cons (by simp only [List.getElem?_toArray, List.getElem?_cons_succ, List.getElem?_cons_zero]; rfl) (fun K hK => ?_) AllReadyH.nil
    go_simp
    refine (sealerof k n _ Q.out.1.1 Q.out.1.2.1 yk).mono ?_
    rintro r x6 ⟨g, rfl, C, hg, hM⟩
    refine hK.out _ _ (hH.trans (hM.mono hH.size)) (fun hH => ?_)
    clear hK K
    replace V1 := var_below hM V1
    replace F9 := var_below hM F9
    clear hM
    have hne : g ≠ x.heap.size := by omega
    refine wpAnyH_ready (rs := [8]) (by kernel_rfl) (by simp) ?_
    refine AllReadyH.cons (by simp only [List.getElem?_toArray, List.getElem?_cons_succ, List.getElem?_cons_zero]; rfl) (fun K hK => ?_) AllReadyH.nil
    refine step_store_row (by rfl) _ _ _ (by rfl) (x.heap.size) (sc g (elt (enc (kf k) (zs 16))) (jb n)) (by rfl) (by rfl) 129 _ F9 (sc_info _ _ _ JL.out) (zsc_old _ _ _ JL.out) (sc_one _ _ _) ?_
    have g9l := hid (show w.heap.size < x.heap.size by have := hs9; omega)
    have BY := hid (below_row hH (g := x.heap.size) (by omega) (sc g (elt (enc (kf k) (zs 16))) (jb n)))
    refine hK.out _ _ BY.out (fun _ => ?_)
    clear hK K
    simp only [Act.put]
    have SY := hid (show Sv _ _ _ _ _ from setRow_heap _ (x.heap.size) _ (sc g (elt (enc (kf k) (zs 16))) (jb n)) _ _ F9)
    have CY := hid (C.rowFar (g' := x.heap.size) (sc g (elt (enc (kf k) (zs 16))) (jb n)) (by omega))
    have VY := hid ((setRow_other x6 (x.heap.size) w.heap.size (sc g (elt (enc (kf k) (zs 16))) (jb n)) (by omega)).trans V1)
    generalize hg9 : x.heap.size = g9 at *
    generalize x6.setRow g9 (sc g (elt (enc (kf k) (zs 16))) (jb n)) = y at *
    clear F9 V1 C hH hs9 hg9
    refine wpAnyH_done (by kernel_rfl) ?_ _
    go_wp2_with fail
    have V1 : y.drew.heap[w.heap.size]? = some (.cells #[.int .i64 0, .slice none 0 0] 32) := VY.out
    have S1 : Sv y.drew g9 _ _ _ := SY.out
    have C1 : Ar y.drew g _ _ := CY.out
    refine wp_region_held_drew (S := fun w' => Below w.heap.size w w') (by kernel_rfl) BY.out.drew (fun hH => ?_)
    refine wpAnyH_take (i := 0) (v := .slice (some ⟨b4, o4, none⟩) s.length c4) (by simp only [List.getElem?_toArray, List.getElem?_cons_zero]; rfl) (by kernel_rfl) (by kernel_rfl) (by kernel_rfl) (by intro _ _ _ h; exact h) (Or.inl ⟨by rfl, fun w hS => by go_simp⟩) hH ?_
    simp only [Act.put, List.setIfInBounds_toArray, List.set_cons_zero, List.set_cons_succ]
    refine wpAnyH_take (i := 1) (v := .int .i64 (m : Int)) (by simp only [List.getElem?_toArray, List.getElem?_cons_succ, List.getElem?_cons_zero]; rfl) (by kernel_rfl) (by kernel_rfl) (by kernel_rfl) (by intro _ _ _ h; exact h) (Or.inl ⟨by rfl, fun w hS => by go_simp⟩) hH ?_
    simp only [Act.put, List.setIfInBounds_toArray, List.set_cons_zero, List.set_cons_succ]
    refine wpAnyH_take (i := 2) (v := .slice (some ⟨b4, o4, none⟩) m c4) (by simp only [List.getElem?_toArray, List.getElem?_cons_succ, List.getElem?_cons_zero]; rfl) (by kernel_rfl) (by kernel_rfl) (by kernel_rfl) (by intro _ _ _ h; exact h) (Or.inl ⟨by rfl, fun w hS => by go_simp⟩) hH ?_
    simp only [Act.put, List.setIfInBounds_toArray, List.set_cons_zero, List.set_cons_succ]
    refine wpAnyH_take (i := 3) (v := .slice (some ⟨b4, o4, none⟩) s.length c4) (by simp only [List.getElem?_toArray, List.getElem?_cons_succ, List.getElem?_cons_zero]; rfl) (by kernel_rfl) (by kernel_rfl) (by kernel_rfl) (by intro _ _ _ h; exact h) (Or.inl ⟨by rfl, fun w hS => by go_simp⟩) hH ?_
    simp only [Act.put, List.setIfInBounds_toArray, List.set_cons_zero, List.set_cons_succ]
    refine wpAnyH_take (i := 4) (v := .int .i64 (m : Int)) (by simp only [List.getElem?_toArray, List.getElem?_cons_succ, List.getElem?_cons_zero]; rfl) (by kernel_rfl) (by kernel_rfl) (by kernel_rfl) (by intro _ _ _ h; exact h) (Or.inl ⟨by rfl, fun w hS => by go_simp⟩) hH ?_
    simp only [Act.put, List.setIfInBounds_toArray, List.set_cons_zero, List.set_cons_succ]
    refine wpAnyH_take (i := 5) (v := .slice (some ⟨b4, o4 + m, none⟩) 16 (c4 - m)) (by simp only [List.getElem?_toArray, List.getElem?_cons_succ, List.getElem?_cons_zero]; rfl) (by kernel_rfl) (by kernel_rfl) (by kernel_rfl) (by intro _ _ _ h; exact h) (Or.inl ⟨by rfl, fun w hS => by go_simp⟩) hH ?_
    simp only [Act.put, List.setIfInBounds_toArray, List.set_cons_zero, List.set_cons_succ]
    refine wpAnyH_take (i := 6) (v := .pointer (some ⟨b4, o4 + m, none⟩)) (by simp only [List.getElem?_toArray, List.getElem?_cons_succ, List.getElem?_cons_zero]; rfl) (by kernel_rfl) (by kernel_rfl) (by kernel_rfl) (by intro _ _ _ h; exact h) (Or.inl ⟨by rfl, fun w hS => by go_simp⟩) hH ?_
    simp only [Act.put, List.setIfInBounds_toArray, List.set_cons_zero, List.set_cons_succ]
    refine wpAnyH_take (i := 7) (v := .agg (arr (s.drop m))) (by simp only [List.getElem?_toArray, List.getElem?_cons_succ, List.getElem?_cons_zero]; rfl) (by kernel_rfl) (by kernel_rfl) (by kernel_rfl) (by intro _ _ _ h; exact h) (yieldsIf_load_mid (by rfl) _ _ rfl b4 (o4 + m) rfl ((s.drop m).map bv) _ (fun w hS => rangeAt.below RD.out hS) Try.underlying127 rfl (by rw [List.length_map, ← arr_size]; exact ZD.out)) hH ?_
    simp only [Act.put, List.setIfInBounds_toArray, List.set_cons_zero, List.set_cons_succ]
    generalize y.drew = x7 at hH V1 S1 C1 ⊢
    clear VY SY CY BY
    refine wpAnyH_ready (rs := [8]) (by kernel_rfl) (by simp) ?_
    refine AllReadyH.cons (by simp only [List.getElem?_toArray, List.getElem?_cons_succ, List.getElem?_cons_zero]; rfl) (fun K hK => ?_) AllReadyH.nil
    have T7 : Ar _ _ 127 (zs 16) := heap_alloc_new x7 (.cells #[.int .u8 0, .int .u8 0, .int .u8 0, .int .u8 0, .int .u8 0, .int .u8 0, .int .u8 0, .int .u8 0, .int .u8 0, .int .u8 0, .int .u8 0, .int .u8 0, .int .u8 0, .int .u8 0, .int .u8 0, .int .u8 0] 127)
    have l9 : g9 < x7.heap.size := var_lt S1
    have lc : g < x7.heap.size := C1.lt
    have lv : w.heap.size < x7.heap.size := var_lt V1
    replace V1 := var_alloc (.cells #[.int .u8 0, .int .u8 0, .int .u8 0, .int .u8 0, .int .u8 0, .int .u8 0, .int .u8 0, .int .u8 0, .int .u8 0, .int .u8 0, .int .u8 0, .int .u8 0, .int .u8 0, .int .u8 0, .int .u8 0, .int .u8 0] 127) V1
    replace S1 : Sv _ g9 _ _ _ := var_alloc (.cells #[.int .u8 0, .int .u8 0, .int .u8 0, .int .u8 0, .int .u8 0, .int .u8 0, .int .u8 0, .int .u8 0, .int .u8 0, .int .u8 0, .int .u8 0, .int .u8 0, .int .u8 0, .int .u8 0, .int .u8 0, .int .u8 0] 127) S1
    replace C1 := C1.alloc (.cells #[.int .u8 0, .int .u8 0, .int .u8 0, .int .u8 0, .int .u8 0, .int .u8 0, .int .u8 0, .int .u8 0, .int .u8 0, .int .u8 0, .int .u8 0, .int .u8 0, .int .u8 0, .int .u8 0, .int .u8 0, .int .u8 0] 127)
    go_simp
    refine hK.out _ _ (hH.alloc hH.size _) (fun hH => ?_)
    clear hK K
    refine wpAnyH_ready (rs := [9]) (by kernel_rfl) (by simp) ?_
    refine AllReadyH.cons (by simp only [List.getElem?_toArray, List.getElem?_cons_succ, List.getElem?_cons_zero]; rfl) (fun K hK => ?_) AllReadyH.nil
    go_simp
    refine hK.out _ _ hH (fun hH => ?_)
    clear hK K
    refine wpAnyH_ready (rs := [10]) (by kernel_rfl) (by simp) ?_
    refine AllReadyH.cons (by simp only [List.getElem?_toArray, List.getElem?_cons_succ, List.getElem?_cons_zero]; rfl) (fun K hK => ?_) AllReadyH.nil
    refine step_store_row (by rfl) _ _ _ (by rfl) x7.heap.size (arr (s.drop m)) (by rfl) (by rfl) 127 _ T7 ZD.out (by rw [arr_size, arr_size, zs_len, DLn.out]) (arr_one _) ?_
    have BZ := hid (below_row hH (g := x7.heap.size) (by omega) (arr (s.drop m)))
    refine hK.out _ _ BZ.out (fun _ => ?_)
    clear hK K
    simp only [Act.put]
    have TZ := hid (T7.row (l' := s.drop m))
    have CZ := hid (C1.rowFar (g' := x7.heap.size) (arr (s.drop m)) (by omega))
    have SZ := hid (show Sv _ _ _ _ _ from (setRow_other (x7.alloc (.cells #[.int .u8 0, .int .u8 0, .int .u8 0, .int .u8 0, .int .u8 0, .int .u8 0, .int .u8 0, .int .u8 0, .int .u8 0, .int .u8 0, .int .u8 0, .int .u8 0, .int .u8 0, .int .u8 0, .int .u8 0, .int .u8 0] 127)) x7.heap.size g9 (arr (s.drop m)) (by omega)).trans S1)
    have VZ := hid ((setRow_other (x7.alloc (.cells #[.int .u8 0, .int .u8 0, .int .u8 0, .int .u8 0, .int .u8 0, .int .u8 0, .int .u8 0, .int .u8 0, .int .u8 0, .int .u8 0, .int .u8 0, .int .u8 0, .int .u8 0, .int .u8 0, .int .u8 0, .int .u8 0] 127)) x7.heap.size w.heap.size (arr (s.drop m)) (by omega)).trans V1)
    clear T7 V1 S1 C1 hH l9 lc lv
    generalize (x7.alloc (.cells #[.int .u8 0, .int .u8 0, .int .u8 0, .int .u8 0, .int .u8 0, .int .u8 0, .int .u8 0, .int .u8 0, .int .u8 0, .int .u8 0, .int .u8 0, .int .u8 0, .int .u8 0, .int .u8 0, .int .u8 0, .int .u8 0] 127)).setRow x7.heap.size (arr (s.drop m)) = z at *
    generalize x7.heap.size = g12 at *
    refine wpAnyH_done (by kernel_rfl) ?_ _
    have TL := hid (tg_len (kf k) n e (s.take m) Q.out.1.2.1)
    have GB := guard_blk
    have NE : ∀ w, (binOp .neq 127 (.agg (arr (tg (kf k) n e (s.take m)))) (.agg (arr (s.drop m)))).run Try.prog w = .ok (.bool true) w := fun w => by rw [neq_blk _ _ TL.out DLn.out, show ((tg (kf k) n e (s.take m)) == s.drop m) = false by simpa using HO.out]; rfl
    have RS := hid (row_range SZ.out)
    have RT := hid (show z.rangeAt g12 0 ((s.drop m).map bv) from row_range TZ.out)
    go_wp2_with fail
    refine wp_region_held_drew (S := fun w' => Below z.heap.size z w') (by kernel_rfl) (Below.refl _ _).drew (fun hH => ?_)
    refine wpAnyH_take (i := 0) (v := .agg (sc g (elt (enc (kf k) (zs 16))) (jb n))) (by simp only [List.getElem?_toArray, List.getElem?_cons_zero]; rfl) (by kernel_rfl) (by kernel_rfl) (by kernel_rfl) (by intro _ _ _ h; exact h) (yieldsIf_load_mid (by rfl) _ _ rfl g9 0 rfl (sc g (elt (enc (kf k) (zs 16))) (jb n)).toList _ (fun w hS => rangeAt.below RS.out hS) Try.underlying129 rfl (by rw [Array.length_toList]; exact sc_info _ _ _ JL.out)) hH ?_
    simp only [Act.put, List.setIfInBounds_toArray, List.set_cons_zero, List.set_cons_succ]
    refine wpAnyH_take (i := 1) (v := .slice p3 e.length c3) (by simp only [List.getElem?_toArray, List.getElem?_cons_succ, List.getElem?_cons_zero]; rfl) (by kernel_rfl) (by kernel_rfl) (by kernel_rfl) (by intro _ _ _ h; exact h) (Or.inl ⟨by rfl, fun w hS => by go_simp⟩) hH ?_
    simp only [Act.put, List.setIfInBounds_toArray, List.set_cons_zero, List.set_cons_succ]
    refine wpAnyH_take (i := 2) (v := .slice (some ⟨b4, o4, none⟩) m c4) (by simp only [List.getElem?_toArray, List.getElem?_cons_succ, List.getElem?_cons_zero]; rfl) (by kernel_rfl) (by kernel_rfl) (by kernel_rfl) (by intro _ _ _ h; exact h) (Or.inl ⟨by rfl, fun w hS => by go_simp⟩) hH ?_
    simp only [Act.put, List.setIfInBounds_toArray, List.set_cons_zero, List.set_cons_succ]
    refine wpAnyH_take (i := 4) (v := .agg (arr (s.drop m))) (by simp only [List.getElem?_toArray, List.getElem?_cons_succ, List.getElem?_cons_zero]; rfl) (by kernel_rfl) (by kernel_rfl) (by kernel_rfl) (by intro _ _ _ h; exact h) (yieldsIf_load_mid (by rfl) _ _ rfl g12 0 rfl ((s.drop m).map bv) _ (fun w hS => rangeAt.below RT.out hS) Try.underlying127 rfl (by rw [List.length_map, ← arr_size]; exact ZD.out)) hH ?_
    simp only [Act.put, List.setIfInBounds_toArray, List.set_cons_zero, List.set_cons_succ]
    refine wpAnyH_ready (rs := [3]) (by kernel_rfl) (by simp) ?_
    refine AllReadyH.cons (by simp only [List.getElem?_toArray, List.getElem?_cons_succ, List.getElem?_cons_zero]; rfl) (fun K hK => ?_) AllReadyH.nil
    go_simp
    refine (itag g n _ _ e (s.take m) (kf k) _ (CZ.out.below hH) HF.out Q.out.1.2.1 yn ((HE.out.below BZ.out).below hH) ((PT.out.below BZ.out).below hH) ye TY.out (by have := Q.out.1.2.2; omega) (by rw [TLn.out]; omega)).mono ?_
    rintro r y2 ⟨rfl, hM⟩
    refine hK.out _ _ (hH.trans (hM.mono hH.size)) (fun hH => ?_)
    clear hK K hM
    refine wpAnyH_ready (rs := [5]) (by kernel_rfl) (by simp) ?_
    refine AllReadyH.cons (by simp only [List.getElem?_toArray, List.getElem?_cons_succ, List.getElem?_cons_zero]; rfl) (fun K hK => ?_) AllReadyH.nil
    go_simp
    refine hK.out _ _ hH (fun hH => ?_)
    clear hK K
    have VY := hid (var_below hH VZ.out)
    have SY := hid (SZ.out.below hH)
    have CY := hid (CZ.out.below hH)
    have BY := hid (BZ.out.trans (hH.mono BZ.out.size))
    clear VZ SZ CZ BZ TZ RS RT hH NE
    refine wpAnyH_done (by kernel_rfl) ?_ _
    obtain ⟨f1, f2, f3, f4⟩ := var2_facts VY.out
    have hset := hid (var2_set (x' := .int .i64 9) (y' := .slice none 0 0) VY.out)
    have hbel := hid (below_set2 (x := .int .i64 9) (y := .slice none 0 0) BY.out (Nat.le_refl _))
    go_wp2
    exact bodyPost_ret (v := .agg #[.int .i64 9, .slice none 0 0]) (results_cell_row rfl _ _ w.heap.size 32 _ _ _ rfl hset.out Try.underlying32 rfl (by kernel_rfl)) rfl ⟨rfl, hbel.out⟩
  exact AllReadyH.nil

theorem iop (vk vn ve vp : Value) (k n e s : List Nat) (w : World) (hk : Rd w vk k) (hn : Rd w vn n) (he : Rd w ve e) (hp : Rd w vp s) (yk : Byt k) (yn : Byt n) (ye : Byt e) (ys : Byt s) :
    Calls Try.prog 75 #[vk, vn, ve, vp] w fun r w' => ∃ v, r = .returned (.agg #[.int .i64 (opC k n e s), v]) ∧ Owx w' w.heap.size v (opB k n e s) ∧ Below w.heap.size w w' := by
  by_cases h : opOk k n e s = true
  · by_cases ho : opens (kf k) n e s
    · obtain ⟨m, hm⟩ : ∃ m, s.length = m + 16 := ⟨s.length - 16, by have := ho.1; omega⟩
      have e1 : s.length - 16 = m := by omega
      rw [show opC k n e s = 0 by rw [opC, if_pos h, if_pos ho], show opB k n e s = hid1 (kf k) n (s.take m) by rw [opB, if_pos h, if_pos ho, e1]]
      have ho2 := ho.2
      rw [e1] at ho2
      exact iop_ok vk vn ve vp k n e s w hk hn he hp yk yn ye ys h m hm ho2
    · rw [show opC k n e s = 9 by rw [opC, if_pos h, if_neg ho], show opB k n e s = [] by rw [opB, if_pos h, if_neg ho]]
      by_cases hl : 16 ≤ s.length
      · obtain ⟨m, hm⟩ : ∃ m, s.length = m + 16 := ⟨s.length - 16, by omega⟩
        have e1 : s.length - 16 = m := by omega
        exact (iop_bad vk vn ve vp k n e s w hk hn he hp yk yn ye ys h m hm (fun q => ho ⟨hl, by rw [e1]; exact q⟩)).mono fun e w' ⟨he, hb⟩ => ⟨_, he, Owx.nil _ _, hb⟩
      · exact (iop_short vk vn ve vp k n e s w hk hn he hp h (by omega)).mono fun e w' ⟨he, hb⟩ => ⟨_, he, Owx.nil _ _, hb⟩
  · rw [show opC k n e s = 2 by rw [opC, if_neg h], show opB k n e s = [] by rw [opB, if_neg h]]
    exact (iop_no vk vn ve vp k n e s w hk hn he hp (by simpa using h)).mono fun e w' ⟨he, hb⟩ => ⟨_, he, Owx.nil _ _, hb⟩
end Go.Proofs.Ytckgjghpfjinfak.W

namespace Go.Proofs.Ytckgjghpfjinfak.W
open Go.ChangeShapes Go.WideShapes Go.ChangeAt Go.RowKit
open Go.Proofs.Ytckgjghpfjinfak.M

set_option maxHeartbeats 2000000 in
set_option maxRecDepth 100000 in
theorem ihopen (k : List Nat) (hk hs hn : Nat) (vs : Value) (s : List Nat) (w : World) (h : Rd w vs s) (yk : Byt k) (ys : Byt s) (hl : k.length = 16) (h1 : hk ≤ 255) (h2 : hs ≤ 15) (h3 : hn ≤ 1000000000) :
    Calls Try.prog 56 #[.agg #[.int .i64 (hs : Int), .int .i64 (hn : Int), .int .i64 (hk : Int)], .agg (arr k), vs] w fun r w' => ∃ v, r = .returned (.agg #[.int .i64 (opC k (nonceL hs hn) (headL hk hs hn) s), v]) ∧ Owx w' w.heap.size v (opB k (nonceL hs hn) (headL hk hs hn) s) ∧ Below w.heap.size w w' := by
  have H := hid h
  obtain ⟨a, cap, rfl, -, -, -⟩ := h.parts
  have HL := hid hl
  have YK := hid yk
  have YS := hid ys
  clear h hl yk ys
  go_enter Try.func56, Try.ntmps56
  go_wp2_with fail
  have VH : (((w.alloc (.cells #[.int .i64 (hs : Int), .int .i64 (hn : Int), .int .i64 (hk : Int)] 65)).alloc (.cells (arr k) 93)).alloc (.cells #[.int .i64 0, .slice none 0 0] 32)).heap[w.heap.size]? = some (.cells #[.int .i64 (hs : Int), .int .i64 (hn : Int), .int .i64 (hk : Int)] 65) := var_alloc (.cells #[.int .i64 0, .slice none 0 0] 32) (heap_alloc2_old w (.cells #[.int .i64 (hs : Int), .int .i64 (hn : Int), .int .i64 (hk : Int)] 65) (.cells (arr k) 93))
  have VK := hid (show (((w.alloc (.cells #[.int .i64 (hs : Int), .int .i64 (hn : Int), .int .i64 (hk : Int)] 65)).alloc (.cells (arr k) 93)).alloc (.cells #[.int .i64 0, .slice none 0 0] 32)).heap[w.heap.size + 1]? = some (.cells (arr k) 93) from var_alloc (.cells #[.int .i64 0, .slice none 0 0] 32) (heap_alloc2_new w (.cells #[.int .i64 (hs : Int), .int .i64 (hn : Int), .int .i64 (hk : Int)] 65) (.cells (arr k) 93)))
  have VR : (((w.alloc (.cells #[.int .i64 (hs : Int), .int .i64 (hn : Int), .int .i64 (hk : Int)] 65)).alloc (.cells (arr k) 93)).alloc (.cells #[.int .i64 0, .slice none 0 0] 32)).heap[w.heap.size + 1 + 1]? = some (.cells #[.int .i64 0, .slice none 0 0] 32) := by
    have h := heap_alloc_new ((w.alloc (.cells #[.int .i64 (hs : Int), .int .i64 (hn : Int), .int .i64 (hk : Int)] 65)).alloc (.cells (arr k) 93)) (.cells #[.int .i64 0, .slice none 0 0] 32)
    rw [World.size_alloc, World.size_alloc] at h
    exact h
  have BB := hid (show Below w.heap.size w (((w.alloc (.cells #[.int .i64 (hs : Int), .int .i64 (hn : Int), .int .i64 (hk : Int)] 65)).alloc (.cells (arr k) 93)).alloc (.cells #[.int .i64 0, .slice none 0 0] 32)) from (((Below.refl _ _).alloc (Nat.le_refl _) _).alloc (by simp) _).alloc (by simp; omega) _)
  have SG1 := hid (show w.heap.size + 1 + 1 < (((w.alloc (.cells #[.int .i64 (hs : Int), .int .i64 (hn : Int), .int .i64 (hk : Int)] 65)).alloc (.cells (arr k) 93)).alloc (.cells #[.int .i64 0, .slice none 0 0] 32)).heap.size by simp)
  replace H := hid (H.out.below BB.out)
  generalize (((w.alloc (.cells #[.int .i64 (hs : Int), .int .i64 (hn : Int), .int .i64 (hk : Int)] 65)).alloc (.cells (arr k) 93)).alloc (.cells #[.int .i64 0, .slice none 0 0] 32)) = w0 at *
  obtain ⟨gr, hgr⟩ : ∃ g, g = w.heap.size + 1 + 1 := ⟨_, rfl⟩
  obtain ⟨gk, hgk⟩ : ∃ g, g = w.heap.size + 1 := ⟨_, rfl⟩
  obtain ⟨gh, hgh⟩ : ∃ g, g = w.heap.size := ⟨_, rfl⟩
  have LH := hid (show gh < gr by omega)
  have SZ0 := hid (show w.heap.size ≤ gr by omega)
  rw [← hgr] at VR SG1 ⊢
  rw [← hgk] at VK ⊢
  rw [← hgh] at VH ⊢
  have SG := hid (Nat.le_of_lt SG1.out)
  replace VR := hid VR
  clear hgr hgk hgh
  obtain ⟨⟨c0, c1, c2⟩, -⟩ := var3_facts VH
  clear VH
  refine wp_region_held_drew (S := fun w' => Below gr w0 w') (by kernel_rfl) (Below.refl _ _).drew (fun hH => ?_)
  replace VK := hid (show w0.drew.heap[gk]? = _ from VK.out)
  replace VR := hid (show w0.drew.heap[gr]? = _ from VR.out)
  replace H := hid (show Rd w0.drew _ _ from H.out)
  generalize w0.drew = x at hH VK VR H ⊢
  refine wpAnyH_take (i := 0) (v := .pointer (some ⟨gk, 0, none⟩)) (by simp only [List.getElem?_toArray, List.getElem?_cons_zero]; rfl) (by kernel_rfl) (by kernel_rfl) (by kernel_rfl) (by intro _ _ _ h; exact h) (Or.inl ⟨by rfl, fun w hS => by go_simp⟩) hH ?_
  simp only [Act.put, List.setIfInBounds_toArray, List.set_cons_zero, List.set_cons_succ]
  refine wpAnyH_take (i := 1) (v := .slice (some ⟨gk, 0, none⟩) 16 16) (by simp only [List.getElem?_toArray, List.getElem?_cons_succ, List.getElem?_cons_zero]; rfl) (by kernel_rfl) (by kernel_rfl) (by kernel_rfl) (by intro _ _ _ h; exact h) (Or.inl ⟨by rfl, fun w hS => by go_simp⟩) hH ?_
  simp only [Act.put, List.setIfInBounds_toArray, List.set_cons_zero, List.set_cons_succ]
  refine wpAnyH_take (i := 2) (v := .pointer (some ⟨gh, 0, none⟩)) (by simp only [List.getElem?_toArray, List.getElem?_cons_succ, List.getElem?_cons_zero]; rfl) (by kernel_rfl) (by kernel_rfl) (by kernel_rfl) (by intro _ _ _ h; exact h) (Or.inl ⟨by rfl, fun w hS => by go_simp⟩) hH ?_
  simp only [Act.put, List.setIfInBounds_toArray, List.set_cons_zero, List.set_cons_succ]
  refine wpAnyH_take (i := 3) (v := .agg #[.int .i64 (hs : Int), .int .i64 (hn : Int)]) (by simp only [List.getElem?_toArray, List.getElem?_cons_succ, List.getElem?_cons_zero]; rfl) (by kernel_rfl) (by kernel_rfl) (by kernel_rfl) (by intro _ _ _ h; exact h) (Or.inl ⟨by rfl, fun w hS => by (have y0 := cell_low hS c0 LH.out; have y1 := cell_low hS c1 LH.out; go_simp)⟩) hH ?_
  simp only [Act.put, List.setIfInBounds_toArray, List.set_cons_zero, List.set_cons_succ]
  refine wpAnyH_take (i := 5) (v := .agg #[.int .i64 (hs : Int), .int .i64 (hn : Int), .int .i64 (hk : Int)]) (by simp only [List.getElem?_toArray, List.getElem?_cons_succ, List.getElem?_cons_zero]; rfl) (by kernel_rfl) (by kernel_rfl) (by kernel_rfl) (by intro _ _ _ h; exact h) (Or.inl ⟨by rfl, fun w hS => by (have y0 := cell_low hS c0 LH.out; have y1 := cell_low hS c1 LH.out; have y2 := cell_low hS c2 LH.out; go_simp)⟩) hH ?_
  simp only [Act.put, List.setIfInBounds_toArray, List.set_cons_zero, List.set_cons_succ]
  refine wpAnyH_take (i := 7) (v := .slice a s.length cap) (by simp only [List.getElem?_toArray, List.getElem?_cons_succ, List.getElem?_cons_zero]; rfl) (by kernel_rfl) (by kernel_rfl) (by kernel_rfl) (by intro _ _ _ h; exact h) (Or.inl ⟨by rfl, fun w hS => by go_simp⟩) hH ?_
  simp only [Act.put, List.setIfInBounds_toArray, List.set_cons_zero, List.set_cons_succ]
  refine wpAnyH_ready (rs := [4]) (by kernel_rfl) (by simp) ?_
  refine AllReadyH.cons (by simp only [List.getElem?_toArray, List.getElem?_cons_succ, List.getElem?_cons_zero]; rfl) (fun K hK => ?_) AllReadyH.nil
  go_simp
  refine (inonce hs hn _ h2 h3).mono ?_
  rintro e x4 ⟨v4, rfl, hO, hM⟩
  obtain ⟨p4, k4, rfl, -, -, -⟩ := hO.rd.parts
  have SB := hid hH.size
  refine hK.out _ _ (hH.trans (hM.mono (Nat.le_trans SG.out hH.size))) (fun hH => ?_)
  clear hK K
  replace VK := hid (var_below hM VK.out)
  replace VR := hid (var_below hM VR.out)
  replace H := hid (H.out.below hM)
  have R4 := hid (hO.rd)
  clear hM SB
  refine wpAnyH_ready (rs := [6]) (by kernel_rfl) (by simp) ?_
  refine AllReadyH.cons (by simp only [List.getElem?_toArray, List.getElem?_cons_succ, List.getElem?_cons_zero]; rfl) (fun K hK => ?_) AllReadyH.nil
  go_simp
  refine (ipacked hk hs hn _ h1 h2 h3).mono ?_
  rintro e x6 ⟨v6, rfl, hO, hM⟩
  obtain ⟨p6, k6, rfl, -, -, -⟩ := hO.rd.parts
  have SB := hid hH.size
  refine hK.out _ _ (hH.trans (hM.mono (Nat.le_trans SG.out hH.size))) (fun hH => ?_)
  clear hK K
  replace VK := hid (var_below hM VK.out)
  replace VR := hid (var_below hM VR.out)
  replace H := hid (H.out.below hM)
  replace R4 := hid (R4.out.below hM)
  have R6 := hid (hO.rd)
  clear hM SB
  refine wpAnyH_ready (rs := [8]) (by kernel_rfl) (by simp) ?_
  refine AllReadyH.cons (by simp only [List.getElem?_toArray, List.getElem?_cons_succ, List.getElem?_cons_zero]; rfl) (fun K hK => ?_) AllReadyH.nil
  go_simp
  refine (iop _ _ _ _ k (nonceL hs hn) (headL hk hs hn) s _ (Owx.ofAr (show Ar _ gk 93 k from VK.out) HL.out (Nat.le_refl gk) (by unfold maxLen; omega)).rd R4.out R6.out H.out YK.out (nonceL_byt _ _) (headL_byt _ _ _ (by omega) (by omega)) YS.out).mono ?_
  rintro e x8 ⟨v8, rfl, hO, hM⟩
  obtain ⟨p8, k8, rfl, -, -, -⟩ := hO.rd.parts
  have LX := hid (show gr < _ from Nat.lt_of_lt_of_le SG1.out hH.size)
  have SX := hid hH.size
  have SB := hid hH.size
  refine hK.out _ _ (hH.trans (hM.mono (Nat.le_trans SG.out hH.size))) (fun hH => ?_)
  clear hK K
  replace VK := hid (var_below hM VK.out)
  replace VR := hid (var_below hM VR.out)
  replace H := hid (H.out.below hM)
  replace R4 := hid (R4.out.below hM)
  replace R6 := hid (R6.out.below hM)
  have OE := hid hO
  obtain ⟨cc, hcc⟩ : ∃ x, x = opC k (nonceL hs hn) (headL hk hs hn) s := ⟨_, rfl⟩
  obtain ⟨m8, hm8⟩ : ∃ x, x = (opB k (nonceL hs hn) (headL hk hs hn) s).length := ⟨_, rfl⟩
  rw [← hcc, ← hm8]
  rw [← hm8] at OE
  replace hcc := hid hcc
  replace hm8 := hid hm8
  clear hO
  clear hM SB
  clear R4 R6 H VK
  refine wpAnyH_ready (rs := [9]) (by kernel_rfl) (by simp) ?_
  refine AllReadyH.cons (by simp only [List.getElem?_toArray, List.getElem?_cons_succ, List.getElem?_cons_zero]; rfl) (fun K hK => ?_) AllReadyH.nil
  obtain ⟨e0, e1, e2, e3⟩ := var2_facts VR.out
  go_simp
  have V2 := hid (var2_set (x' := .int .i64 cc) (y' := .slice p8 m8 k8) VR.out)
  have OB2 := hid (OE.out.set2 (g := gr) (x := .int .i64 cc) (y := .slice p8 m8 k8) LX.out)
  have SB2 := hid hH.size
  refine hK.out _ _ ((hH.setCell (p := ⟨gr, 0, none⟩) (Nat.le_refl _) _).setCell (p := ⟨gr, 1, none⟩) (Nat.le_refl _) _) (fun hH => ?_)
  clear hK K e0 e1 e2 e3
  refine wpAnyH_done (by kernel_rfl) ?_ _
  have BN := hid (BB.out.trans (hH.mono SZ0.out))
  clear hH
  go_wp2
  exact bodyPost_ret (v := .agg #[.int .i64 cc, .slice p8 m8 k8]) (results_cell_row rfl _ _ gr 32 _ _ _ rfl V2.out Try.underlying32 rfl (by kernel_rfl)) rfl ⟨_, congrArg (fun z => Ending.returned (.agg #[.int .i64 z, .slice p8 m8 k8])) hcc.out, OB2.out.mono (Nat.le_trans BB.out.size SX.out), BN.out⟩
end Go.Proofs.Ytckgjghpfjinfak.W
