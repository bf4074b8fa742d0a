/-
  The hash of blocks: the program's HashAll's closure.
-/
import Derived.Test.YtcmafbgfdddnnaaHashofWalks
import Derived.Test.YtcmafbgfdddnnaaFaceWalks
import Derived.Test.YtcmafbgfdddnnaaTellWalks
import Derived.Test.YtcmafbgfdddnnaaBxM
import Derived.Test.YtcmafbgfdddnnaaWithin
namespace Go.Proofs.Ytcmafbgfdddnnaa.W
open Go.ChangeShapes Go.WideShapes Go.ChangeAt Go.RowKit
open Go.Proofs.Ytcmafbgfdddnnaa.M

set_option maxHeartbeats 1000000 in
set_option maxRecDepth 100000 in
theorem ha1_no (ga gb : Nat) (va vb : Value) (h d : List Nat) (w : World) (ca : Bx w ga va) (cb : Bx w gb vb) (ha : Rd w va h) (hb : Rd w vb d) (nh : h.length ≠ 16) :
    Calls Try.prog 94 #[.pointer (some ⟨ga, 0, none⟩), .pointer (some ⟨gb, 0, none⟩)] w fun e w' => e = .panicked [{ v := .iface 9 (.string { data := #[110, 111, 32, 98, 108, 111, 99, 107] }), recovered := false }] ∧ Below w.heap.size w w' := by
  obtain ⟨pa, capa, rfl, -, -, -⟩ := ha.parts
  obtain ⟨pb, capb, rfl, -, -, -⟩ := hb.parts
  have B0 := below_alloc1 w (.cells #[.int .i64 0, .slice none 0 0] 33)
  have V0 := heap_alloc_new w (.cells #[.int .i64 0, .slice none 0 0] 33)
  have CA : (w.alloc (.cells #[.int .i64 0, .slice none 0 0] 33)).cell? ⟨ga, 0, none⟩ = some _ := ca.below B0
  have CB := hid (cb.below B0)
  have HA := hid (ha.below B0)
  have HB := hid (hb.below B0)
  have NH := hid nh
  have VH := hid V0
  have BH := hid B0
  clear ca cb ha hb nh V0 B0
  go_enter Try.func94, Try.ntmps94
  go_wp2_with fail
  refine (blkof_no _ h _ HA.out NH.out).mono ?_
  rintro e w1 ⟨rfl, hM⟩
  exact ⟨rfl, rfl, BH.out.trans (hM.mono BH.out.size)⟩

set_option maxHeartbeats 1000000 in
set_option maxRecDepth 100000 in
theorem ha1_many (ga gb : Nat) (va vb : Value) (h d : List Nat) (w : World) (ca : Bx w ga va) (cb : Bx w gb vb) (ha : Rd w va h) (hb : Rd w vb d) (yh : Byt h) (nh : h.length = 16) (nd : 800 < d.length) :
    Calls Try.prog 94 #[.pointer (some ⟨ga, 0, none⟩), .pointer (some ⟨gb, 0, none⟩)] w fun e w' => e = .returned (.agg #[.int .i64 2, .slice none 0 0]) ∧ Below w.heap.size w w' := by
  have WI := hid (show inB (d.length : Int) 0 800 = false by unfold inB; rw [decide_eq_false (by omega)])
  obtain ⟨pa, capa, rfl, -, -, -⟩ := ha.parts
  obtain ⟨pb, capb, rfl, -, -, -⟩ := hb.parts
  have B0 := below_alloc1 w (.cells #[.int .i64 0, .slice none 0 0] 33)
  have V0 := heap_alloc_new w (.cells #[.int .i64 0, .slice none 0 0] 33)
  have GBl := World.block_lt_of_cell? w _ cb
  have CA : (w.alloc (.cells #[.int .i64 0, .slice none 0 0] 33)).cell? ⟨ga, 0, none⟩ = some _ := ca.below B0
  have CW := hid cb
  have HA := hid (ha.below B0)
  have HW := hid hb
  have NH := hid nh
  have VH := hid V0
  have BH := hid B0
  have GB := hid GBl
  clear ca cb ha hb nh V0 B0 GBl
  go_enter Try.func94, Try.ntmps94
  go_wp2_with fail
  refine (blkof _ h _ HA.out NH.out).mono ?_
  rintro e w1 ⟨rfl, hM⟩
  replace VH := hid (var_below hM VH.out)
  replace BH := hid (BH.out.trans (hM.mono BH.out.size))
  clear CA HA hM
  go_wp2_with fail
  refine (elemof h _ NH.out yh).mono ?_
  rintro e w2 ⟨rfl, hM⟩
  replace VH := hid (var_below hM VH.out)
  replace BH := hid (BH.out.trans (hM.mono BH.out.size))
  clear hM
  have hz2 := hid (BH.out.size)
  have hz3 := hid (var_lt VH.out)
  have V3 := hid (show El _ _ g0 from heap_alloc_new w2 (.cells #[.int .u64 0, .int .u64 0] 87))
  have VR := hid (show (((w2.alloc (.cells #[.int .u64 0, .int .u64 0] 87)).setRow w2.heap.size (ec (elt h))).heap[w.heap.size]? = some (.cells #[.int .i64 0, .slice none 0 0] 33)) by
    rw [setRow_other _ _ _ _ (show w.heap.size ≠ w2.heap.size by have := hz3.out; omega)]
    exact var_alloc _ VH.out)
  have BX := hid (below_row (BH.out.alloc hz2.out (.cells #[.int .u64 0, .int .u64 0] 87)) (g := w2.heap.size) hz2.out (ec (elt h)))
  have V4 := hid (V3.out.row (q := elt h))
  clear VH BH
  have C4 : ((w2.alloc (.cells #[.int .u64 0, .int .u64 0] 87)).setRow w2.heap.size (ec (elt h))).cell? ⟨gb, 0, none⟩ = some _ := cell_kept BX.out CW.out
  go_wp2_with (refine wpList_store_row rfl 87 _ _ rfl w2.heap.size (ec (elt h)) rfl rfl 87 _ V3.out (ec_size _) rfl (ec_one _) ?_)
  have SZ := hid (show ((w2.alloc (.cells #[.int .u64 0, .int .u64 0] 87)).setRow w2.heap.size (ec (elt h))).heap.size = w2.heap.size + 1 by simp)
  generalize ((w2.alloc (.cells #[.int .u64 0, .int .u64 0] 87)).setRow w2.heap.size (ec (elt h))) = W at *
  have SX : (W.alloc (.cells #[.int .i64 (d.length : Int), .int .i64 0, .int .i64 800] 61)).heap[w2.heap.size + 1]? = some (.cells #[.int .i64 (d.length : Int), .int .i64 0, .int .i64 800] 61) := by rw [← SZ.out]; exact heap_alloc_new W _
  refine (within1 (d.length : Int) 0 800 (w2.heap.size + 1) _ SX).mono ?_
  rintro e w3 ⟨rfl, hM⟩
  replace hM := (below_alloc1 W (.cells #[.int .i64 (d.length : Int), .int .i64 0, .int .i64 800] 61)).trans (hM.mono (by simp))
  replace VR := hid (var_below hM VR.out)
  replace V4 := hid (V4.out.below hM)
  replace BX := hid (BX.out.trans (hM.mono BX.out.size))
  have C5 : w3.cell? ⟨gb, 0, none⟩ = some _ := cell_kept BX.out CW.out
  rw [WI.out]
  clear hM C4 SX SZ
  obtain ⟨f1, f2, f3, f4⟩ := var2_facts VR.out
  have hset := hid (var2_set (x' := .int .i64 2) (y' := .slice none 0 0) VR.out)
  have hbel := hid (below_set2 (x := .int .i64 2) (y := .slice none 0 0) BX.out (Nat.le_refl _))
  go_wp2
  exact bodyPost_ret (v := .agg #[.int .i64 2, .slice none 0 0]) (results_cell_row rfl _ _ w.heap.size 33 _ _ _ rfl hset.out Try.underlying33 rfl (by kernel_rfl)) rfl ⟨rfl, hbel.out⟩

set_option maxHeartbeats 1000000 in
set_option maxRecDepth 100000 in
theorem ha1_form (ga gb : Nat) (va vb : Value) (h d : List Nat) (w : World) (ca : Bx w ga va) (cb : Bx w gb vb) (ha : Rd w va h) (hb : Rd w vb d) (yh : Byt h) (nh : h.length = 16) (nd : d.length ≤ 800) (n16 : d.length % 16 ≠ 0) :
    Calls Try.prog 94 #[.pointer (some ⟨ga, 0, none⟩), .pointer (some ⟨gb, 0, none⟩)] w fun e w' => e = .returned (.agg #[.int .i64 1, .slice none 0 0]) ∧ Below w.heap.size w w' := by
  have WI := hid (show inB (d.length : Int) 0 800 = true by unfold inB; rw [decide_eq_true (by omega)])
  have m1 : ((d.length : Int) % 16 != 0) = true := by rw [bne_iff_ne]; omega
  obtain ⟨pa, capa, rfl, -, -, -⟩ := ha.parts
  obtain ⟨pb, capb, rfl, -, -, -⟩ := hb.parts
  have B0 := below_alloc1 w (.cells #[.int .i64 0, .slice none 0 0] 33)
  have V0 := heap_alloc_new w (.cells #[.int .i64 0, .slice none 0 0] 33)
  have GBl := World.block_lt_of_cell? w _ cb
  have CA : (w.alloc (.cells #[.int .i64 0, .slice none 0 0] 33)).cell? ⟨ga, 0, none⟩ = some _ := ca.below B0
  have CW := hid cb
  have HA := hid (ha.below B0)
  have HW := hid hb
  have NH := hid nh
  have VH := hid V0
  have BH := hid B0
  have GB := hid GBl
  clear ca cb ha hb nh V0 B0 GBl
  go_enter Try.func94, Try.ntmps94
  go_wp2_with fail
  refine (blkof _ h _ HA.out NH.out).mono ?_
  rintro e w1 ⟨rfl, hM⟩
  replace VH := hid (var_below hM VH.out)
  replace BH := hid (BH.out.trans (hM.mono BH.out.size))
  clear CA HA hM
  go_wp2_with fail
  refine (elemof h _ NH.out yh).mono ?_
  rintro e w2 ⟨rfl, hM⟩
  replace VH := hid (var_below hM VH.out)
  replace BH := hid (BH.out.trans (hM.mono BH.out.size))
  clear hM
  have hz2 := hid (BH.out.size)
  have hz3 := hid (var_lt VH.out)
  have V3 := hid (show El _ _ g0 from heap_alloc_new w2 (.cells #[.int .u64 0, .int .u64 0] 87))
  have VR := hid (show (((w2.alloc (.cells #[.int .u64 0, .int .u64 0] 87)).setRow w2.heap.size (ec (elt h))).heap[w.heap.size]? = some (.cells #[.int .i64 0, .slice none 0 0] 33)) by
    rw [setRow_other _ _ _ _ (show w.heap.size ≠ w2.heap.size by have := hz3.out; omega)]
    exact var_alloc _ VH.out)
  have BX := hid (below_row (BH.out.alloc hz2.out (.cells #[.int .u64 0, .int .u64 0] 87)) (g := w2.heap.size) hz2.out (ec (elt h)))
  have V4 := hid (V3.out.row (q := elt h))
  clear VH BH
  have C4 : ((w2.alloc (.cells #[.int .u64 0, .int .u64 0] 87)).setRow w2.heap.size (ec (elt h))).cell? ⟨gb, 0, none⟩ = some _ := cell_kept BX.out CW.out
  go_wp2_with (refine wpList_store_row rfl 87 _ _ rfl w2.heap.size (ec (elt h)) rfl rfl 87 _ V3.out (ec_size _) rfl (ec_one _) ?_)
  have SZ := hid (show ((w2.alloc (.cells #[.int .u64 0, .int .u64 0] 87)).setRow w2.heap.size (ec (elt h))).heap.size = w2.heap.size + 1 by simp)
  generalize ((w2.alloc (.cells #[.int .u64 0, .int .u64 0] 87)).setRow w2.heap.size (ec (elt h))) = W at *
  have SX : (W.alloc (.cells #[.int .i64 (d.length : Int), .int .i64 0, .int .i64 800] 61)).heap[w2.heap.size + 1]? = some (.cells #[.int .i64 (d.length : Int), .int .i64 0, .int .i64 800] 61) := by rw [← SZ.out]; exact heap_alloc_new W _
  refine (within1 (d.length : Int) 0 800 (w2.heap.size + 1) _ SX).mono ?_
  rintro e w3 ⟨rfl, hM⟩
  replace hM := (below_alloc1 W (.cells #[.int .i64 (d.length : Int), .int .i64 0, .int .i64 800] 61)).trans (hM.mono (by simp))
  replace VR := hid (var_below hM VR.out)
  replace V4 := hid (V4.out.below hM)
  replace BX := hid (BX.out.trans (hM.mono BX.out.size))
  have C5 : w3.cell? ⟨gb, 0, none⟩ = some _ := cell_kept BX.out CW.out
  rw [WI.out]
  clear hM C4 SX SZ
  obtain ⟨f1, f2, f3, f4⟩ := var2_facts VR.out
  have hset := hid (var2_set (x' := .int .i64 1) (y' := .slice none 0 0) VR.out)
  have hbel := hid (below_set2 (x := .int .i64 1) (y := .slice none 0 0) BX.out (Nat.le_refl _))
  go_wp2
  exact bodyPost_ret (v := .agg #[.int .i64 1, .slice none 0 0]) (results_cell_row rfl _ _ w.heap.size 33 _ _ _ rfl hset.out Try.underlying33 rfl (by kernel_rfl)) rfl ⟨rfl, hbel.out⟩

set_option maxHeartbeats 1000000 in
set_option maxRecDepth 100000 in
theorem ha1_ok (ga gb : Nat) (va vb : Value) (h d : List Nat) (w : World) (ca : Bx w ga va) (cb : Bx w gb vb) (ha : Rd w va h) (hb : Rd w vb d) (yh : Byt h) (yd : Byt d) (nh : h.length = 16) (nd : d.length ≤ 800) (n16 : d.length % 16 = 0) :
    Calls Try.prog 94 #[.pointer (some ⟨ga, 0, none⟩), .pointer (some ⟨gb, 0, none⟩)] w fun e w' => ∃ r, e = .returned (.agg #[.int .i64 0, r]) ∧ Owx w' w.heap.size r (hshB h d) ∧ Below w.heap.size w w' := by
  have WI := hid (show inB (d.length : Int) 0 800 = true by unfold inB; rw [decide_eq_true (by omega)])
  have m1 : ((d.length : Int) % 16 != 0) = false := by rw [bne_eq_false_iff_eq]; omega
  obtain ⟨pa, capa, rfl, -, -, -⟩ := ha.parts
  obtain ⟨pb, capb, rfl, -, -, -⟩ := hb.parts
  have B0 := below_alloc1 w (.cells #[.int .i64 0, .slice none 0 0] 33)
  have V0 := heap_alloc_new w (.cells #[.int .i64 0, .slice none 0 0] 33)
  have GBl := World.block_lt_of_cell? w _ cb
  have CA : (w.alloc (.cells #[.int .i64 0, .slice none 0 0] 33)).cell? ⟨ga, 0, none⟩ = some _ := ca.below B0
  have CW := hid cb
  have HA := hid (ha.below B0)
  have HW := hid hb
  have NH := hid nh
  have VH := hid V0
  have BH := hid B0
  have GB := hid GBl
  clear ca cb ha hb nh V0 B0 GBl
  go_enter Try.func94, Try.ntmps94
  go_wp2_with fail
  refine (blkof _ h _ HA.out NH.out).mono ?_
  rintro e w1 ⟨rfl, hM⟩
  replace VH := hid (var_below hM VH.out)
  replace BH := hid (BH.out.trans (hM.mono BH.out.size))
  clear CA HA hM
  go_wp2_with fail
  refine (elemof h _ NH.out yh).mono ?_
  rintro e w2 ⟨rfl, hM⟩
  replace VH := hid (var_below hM VH.out)
  replace BH := hid (BH.out.trans (hM.mono BH.out.size))
  clear hM
  have hz2 := hid (BH.out.size)
  have hz3 := hid (var_lt VH.out)
  have V3 := hid (show El _ _ g0 from heap_alloc_new w2 (.cells #[.int .u64 0, .int .u64 0] 87))
  have VR := hid (show (((w2.alloc (.cells #[.int .u64 0, .int .u64 0] 87)).setRow w2.heap.size (ec (elt h))).heap[w.heap.size]? = some (.cells #[.int .i64 0, .slice none 0 0] 33)) by
    rw [setRow_other _ _ _ _ (show w.heap.size ≠ w2.heap.size by have := hz3.out; omega)]
    exact var_alloc _ VH.out)
  have BX := hid (below_row (BH.out.alloc hz2.out (.cells #[.int .u64 0, .int .u64 0] 87)) (g := w2.heap.size) hz2.out (ec (elt h)))
  have V4 := hid (V3.out.row (q := elt h))
  clear VH BH
  have C4 : ((w2.alloc (.cells #[.int .u64 0, .int .u64 0] 87)).setRow w2.heap.size (ec (elt h))).cell? ⟨gb, 0, none⟩ = some _ := cell_kept BX.out CW.out
  go_wp2_with (refine wpList_store_row rfl 87 _ _ rfl w2.heap.size (ec (elt h)) rfl rfl 87 _ V3.out (ec_size _) rfl (ec_one _) ?_)
  have SZ := hid (show ((w2.alloc (.cells #[.int .u64 0, .int .u64 0] 87)).setRow w2.heap.size (ec (elt h))).heap.size = w2.heap.size + 1 by simp)
  generalize ((w2.alloc (.cells #[.int .u64 0, .int .u64 0] 87)).setRow w2.heap.size (ec (elt h))) = W at *
  have SX : (W.alloc (.cells #[.int .i64 (d.length : Int), .int .i64 0, .int .i64 800] 61)).heap[w2.heap.size + 1]? = some (.cells #[.int .i64 (d.length : Int), .int .i64 0, .int .i64 800] 61) := by rw [← SZ.out]; exact heap_alloc_new W _
  refine (within1 (d.length : Int) 0 800 (w2.heap.size + 1) _ SX).mono ?_
  rintro e w3 ⟨rfl, hM⟩
  replace hM := (below_alloc1 W (.cells #[.int .i64 (d.length : Int), .int .i64 0, .int .i64 800] 61)).trans (hM.mono (by simp))
  replace VR := hid (var_below hM VR.out)
  replace V4 := hid (V4.out.below hM)
  replace BX := hid (BX.out.trans (hM.mono BX.out.size))
  have C5 : w3.cell? ⟨gb, 0, none⟩ = some _ := cell_kept BX.out CW.out
  rw [WI.out]
  clear hM C4 SX SZ
  go_wp2_with (refine wpList_load_row rfl 87 _ rfl w2.heap.size rfl 87 (ec (elt h)) _ _ V4.out Try.underlying87 rfl (ec_size _) ?_)
  refine (hashof (elt h) _ d _ (HW.out.below BX.out) yd (elt_64 h yh) (by omega) n16).mono ?_
  rintro e w4 ⟨rfl, hM⟩
  replace VR := hid (var_below hM VR.out)
  replace BX := hid (BX.out.trans (hM.mono BX.out.size))
  clear hM C5
  go_wp2_with fail
  refine (tellb (hshB h d) _ (hshB_len h d)).mono ?_
  rintro e w5 ⟨r, rfl, O, hM⟩
  obtain ⟨q, c, rfl, -, -, -⟩ := O.rd.parts
  have hz5 := var_lt VR.out
  have V9 := var_below hM VR.out
  have B9 := BX.out.trans (hM.mono BX.out.size)
  obtain ⟨f1, f2, f3, f4⟩ := var2_facts V9
  have hset := hid (var2_set (x' := .int .i64 0) (y' := .slice q (hshB h d).length c) V9)
  have hbel := hid (below_set2 (x := .int .i64 0) (y := .slice q (hshB h d).length c) B9 (Nat.le_refl _))
  have hown := hid ((O.set2 (g := w.heap.size) (x := .int .i64 0) (y := .slice q (hshB h d).length c) hz5).mono (base' := w.heap.size) (BX.out.size))
  clear V9 B9 O hM
  go_wp2
  exact bodyPost_ret (v := .agg #[.int .i64 0, .slice q (hshB h d).length c]) (results_cell_row rfl _ _ w.heap.size 33 _ _ _ rfl hset.out Try.underlying33 rfl (by kernel_rfl)) rfl ⟨_, rfl, hown.out, hbel.out⟩
end Go.Proofs.Ytcmafbgfdddnnaa.W
