/-
  What is hidden: the program's StreamXor's closure.
-/
import Derived.Test.YtflnhjbanlpjiaiStmWalks
import Derived.Test.YtflnhjbanlpjiaiCipWalks
import Derived.Test.YtflnhjbanlpjiaiBoeWalks
import Derived.Test.YtflnhjbanlpjiaiKeyWalks
import Derived.Test.YtflnhjbanlpjiaiBxM
import Derived.Test.YtflnhjbanlpjiaiWithin
namespace Go.Proofs.Ytflnhjbanlpjiai.W
open Go.ChangeShapes Go.WideShapes Go.ChangeAt Go.RowKit
open Go.Proofs.Ytflnhjbanlpjiai.M

theorem ar_all {w : World} {g : Nat} {T : TypeId} {l : List Nat} (h : Ar w g T l) : w.rangeAt g 0 (l.map bv) := fun j v hv => by
  rw [cell_of_row w g (0 + j) _ _ _ h, Nat.zero_add]
  simp [arr, hv]

set_option maxHeartbeats 2000000 in
set_option maxRecDepth 100000 in
theorem sx1_no (gk gb gd : Nat) (vk vb vd : Value) (k b d : List Nat) (w : World) (ck : Bx w gk vk) (cb : Bx w gb vb) (cd : Bx w gd vd) (hk : Rd w vk k) (hb : Rd w vb b) (hd : Rd w vd d) (nb : b.length ≠ 16) :
    Calls Try.prog 30 #[.pointer (some ⟨gb, 0, none⟩), .pointer (some ⟨gk, 0, none⟩), .pointer (some ⟨gd, 0, none⟩)] w fun e w' => e = .panicked [{ v := .iface 9 (.string { data := #[110, 111, 32, 98, 108, 111, 99, 107] }), recovered := false }] ∧ Below w.heap.size w w' := by
  obtain ⟨pk, capk, rfl, -, -, -⟩ := hk.parts
  obtain ⟨pb, capb, rfl, -, -, -⟩ := hb.parts
  obtain ⟨pd, capd, rfl, -, -, -⟩ := hd.parts
  have B0 := below_alloc1 w (.cells #[.int .i64 0, .slice none 0 0] 24)
  have V0 := heap_alloc_new w (.cells #[.int .i64 0, .slice none 0 0] 24)
  have CB : (w.alloc (.cells #[.int .i64 0, .slice none 0 0] 24)).cell? ⟨gb, 0, none⟩ = some _ := cb.below B0
  have CK := hid ck
  have CD := hid cd
  have HR := hid (hb.below B0)
  have HK := hid hk
  have HD := hid hd
  have VH := hid V0
  have BH := hid B0
  have NB := hid nb
  clear ck cb cd hk hb hd V0 B0 nb
  go_enter Try.func30, Try.ntmps30
  go_wp2_with fail
  refine (blkof_no _ b _ HR.out NB.out).mono ?_
  rintro e w1 ⟨rfl, hM⟩
  exact ⟨rfl, rfl, BH.out.trans (hM.mono BH.out.size)⟩

set_option maxHeartbeats 2000000 in
set_option maxRecDepth 100000 in
theorem sx1_key (gk gb gd : Nat) (vk vb vd : Value) (k b d : List Nat) (w : World) (ck : Bx w gk vk) (cb : Bx w gb vb) (cd : Bx w gd vd) (hk : Rd w vk k) (hb : Rd w vb b) (hd : Rd w vd d) (nb : b.length = 16) (nk : k.length ≠ 16) :
    Calls Try.prog 30 #[.pointer (some ⟨gb, 0, none⟩), .pointer (some ⟨gk, 0, none⟩), .pointer (some ⟨gd, 0, none⟩)] w fun e w' => e = .returned (.agg #[.int .i64 2, .slice none 0 0]) ∧ Below w.heap.size w w' := by
  obtain ⟨pk, capk, rfl, -, -, -⟩ := hk.parts
  obtain ⟨pb, capb, rfl, -, -, -⟩ := hb.parts
  obtain ⟨pd, capd, rfl, -, -, -⟩ := hd.parts
  have B0 := below_alloc1 w (.cells #[.int .i64 0, .slice none 0 0] 24)
  have V0 := heap_alloc_new w (.cells #[.int .i64 0, .slice none 0 0] 24)
  have CB : (w.alloc (.cells #[.int .i64 0, .slice none 0 0] 24)).cell? ⟨gb, 0, none⟩ = some _ := cb.below B0
  have CK := hid ck
  have CD := hid cd
  have HR := hid (hb.below B0)
  have HK := hid hk
  have HD := hid hd
  have VH := hid V0
  have BH := hid B0
  have NB := hid nb
  clear ck cb cd hk hb hd V0 B0 nb
  go_enter Try.func30, Try.ntmps30
  go_wp2_with fail
  have NK := hid nk
  clear nk
  refine (blkof _ b _ HR.out NB.out).mono ?_
  rintro e w1 ⟨rfl, hM⟩
  replace VH := hid (var_below hM VH.out)
  replace BH := hid (BH.out.trans (hM.mono BH.out.size))
  clear CB HR hM
  have hz2 := hid (BH.out.size)
  have hz3 := hid (var_lt VH.out)
  have ZB := hid (blk_size b NB.out)
  have V3 := hid (show Ar _ _ _ (zs 16) from heap_alloc_new w1 (.cells #[.int .u8 0, .int .u8 0, .int .u8 0, .int .u8 0, .int .u8 0, .int .u8 0, .int .u8 0, .int .u8 0, .int .u8 0, .int .u8 0, .int .u8 0, .int .u8 0, .int .u8 0, .int .u8 0, .int .u8 0, .int .u8 0] 39))
  have VR := hid (show (((w1.alloc (.cells #[.int .u8 0, .int .u8 0, .int .u8 0, .int .u8 0, .int .u8 0, .int .u8 0, .int .u8 0, .int .u8 0, .int .u8 0, .int .u8 0, .int .u8 0, .int .u8 0, .int .u8 0, .int .u8 0, .int .u8 0, .int .u8 0] 39)).setRow w1.heap.size (arr b)).heap[w.heap.size]? = some (.cells #[.int .i64 0, .slice none 0 0] 24)) by
    rw [setRow_other _ _ _ _ (show w.heap.size ≠ w1.heap.size by have := hz3.out; omega)]
    exact var_alloc _ VH.out)
  have BX := hid (below_row (BH.out.alloc hz2.out (.cells #[.int .u8 0, .int .u8 0, .int .u8 0, .int .u8 0, .int .u8 0, .int .u8 0, .int .u8 0, .int .u8 0, .int .u8 0, .int .u8 0, .int .u8 0, .int .u8 0, .int .u8 0, .int .u8 0, .int .u8 0, .int .u8 0] 39)) (g := w1.heap.size) hz2.out (arr b))
  have V4 := hid (V3.out.row (l' := b))
  have SZ := hid (show ((w1.alloc (.cells #[.int .u8 0, .int .u8 0, .int .u8 0, .int .u8 0, .int .u8 0, .int .u8 0, .int .u8 0, .int .u8 0, .int .u8 0, .int .u8 0, .int .u8 0, .int .u8 0, .int .u8 0, .int .u8 0, .int .u8 0, .int .u8 0] 39)).setRow w1.heap.size (arr b)).heap.size = w1.heap.size + 1 by simp)
  clear VH BH
  have C4 : ((w1.alloc (.cells #[.int .u8 0, .int .u8 0, .int .u8 0, .int .u8 0, .int .u8 0, .int .u8 0, .int .u8 0, .int .u8 0, .int .u8 0, .int .u8 0, .int .u8 0, .int .u8 0, .int .u8 0, .int .u8 0, .int .u8 0, .int .u8 0] 39)).setRow w1.heap.size (arr b)).cell? ⟨gk, 0, none⟩ = some _ := cell_kept BX.out CK.out
  have C5 : ((w1.alloc (.cells #[.int .u8 0, .int .u8 0, .int .u8 0, .int .u8 0, .int .u8 0, .int .u8 0, .int .u8 0, .int .u8 0, .int .u8 0, .int .u8 0, .int .u8 0, .int .u8 0, .int .u8 0, .int .u8 0, .int .u8 0, .int .u8 0] 39)).setRow w1.heap.size (arr b)).cell? ⟨gd, 0, none⟩ = some _ := cell_kept BX.out CD.out
  go_wp2_with (refine wpList_store_row rfl 39 _ _ rfl w1.heap.size (arr b) rfl rfl 39 _ V3.out ZB.out (by rw [arr_size, arr_size, NB.out]; rfl) (arr_one _) ?_; generalize ((w1.alloc (.cells #[.int .u8 0, .int .u8 0, .int .u8 0, .int .u8 0, .int .u8 0, .int .u8 0, .int .u8 0, .int .u8 0, .int .u8 0, .int .u8 0, .int .u8 0, .int .u8 0, .int .u8 0, .int .u8 0, .int .u8 0, .int .u8 0] 39)).setRow w1.heap.size (arr b)) = W at *)
  refine (iskey_no _ _ _ NK.out _).mono ?_
  rintro e w' ⟨rfl, rfl⟩
  obtain ⟨f1, f2, f3, f4⟩ := var2_facts VR.out
  have hset := hid (var2_set (x' := .int .i64 2) (y' := .slice none 0 0) VR.out)
  have hbel := hid (below_set2 (x := .int .i64 2) (y := .slice none 0 0) BX.out (Nat.le_refl _))
  go_wp2
  exact bodyPost_ret (v := .agg #[.int .i64 2, .slice none 0 0]) (results_cell_row rfl _ _ w.heap.size 24 _ _ _ rfl hset.out Try.underlying24 rfl (by kernel_rfl)) rfl ⟨rfl, hbel.out⟩

set_option maxHeartbeats 2000000 in
set_option maxRecDepth 100000 in
theorem sx1_many (gk gb gd : Nat) (vk vb vd : Value) (k b d : List Nat) (w : World) (ck : Bx w gk vk) (cb : Bx w gb vb) (cd : Bx w gd vd) (hk : Rd w vk k) (hb : Rd w vb b) (hd : Rd w vd d) (nb : b.length = 16) (nk : k.length = 16) (nd : 600 < d.length) :
    Calls Try.prog 30 #[.pointer (some ⟨gb, 0, none⟩), .pointer (some ⟨gk, 0, none⟩), .pointer (some ⟨gd, 0, none⟩)] w fun e w' => e = .returned (.agg #[.int .i64 2, .slice none 0 0]) ∧ Below w.heap.size w w' := by
  obtain ⟨pk, capk, rfl, -, -, -⟩ := hk.parts
  obtain ⟨pb, capb, rfl, -, -, -⟩ := hb.parts
  obtain ⟨pd, capd, rfl, -, -, -⟩ := hd.parts
  have B0 := below_alloc1 w (.cells #[.int .i64 0, .slice none 0 0] 24)
  have V0 := heap_alloc_new w (.cells #[.int .i64 0, .slice none 0 0] 24)
  have CB : (w.alloc (.cells #[.int .i64 0, .slice none 0 0] 24)).cell? ⟨gb, 0, none⟩ = some _ := cb.below B0
  have CK := hid ck
  have CD := hid cd
  have HR := hid (hb.below B0)
  have HK := hid hk
  have HD := hid hd
  have VH := hid V0
  have BH := hid B0
  have NB := hid nb
  clear ck cb cd hk hb hd V0 B0 nb
  go_enter Try.func30, Try.ntmps30
  go_wp2_with fail
  have NK := hid nk
  have WI := hid (show inB (d.length : Int) 0 600 = false by unfold inB; rw [decide_eq_false (by omega)])
  clear nk
  refine (blkof _ b _ HR.out NB.out).mono ?_
  rintro e w1 ⟨rfl, hM⟩
  replace VH := hid (var_below hM VH.out)
  replace BH := hid (BH.out.trans (hM.mono BH.out.size))
  clear CB HR hM
  have hz2 := hid (BH.out.size)
  have hz3 := hid (var_lt VH.out)
  have ZB := hid (blk_size b NB.out)
  have V3 := hid (show Ar _ _ _ (zs 16) from heap_alloc_new w1 (.cells #[.int .u8 0, .int .u8 0, .int .u8 0, .int .u8 0, .int .u8 0, .int .u8 0, .int .u8 0, .int .u8 0, .int .u8 0, .int .u8 0, .int .u8 0, .int .u8 0, .int .u8 0, .int .u8 0, .int .u8 0, .int .u8 0] 39))
  have VR := hid (show (((w1.alloc (.cells #[.int .u8 0, .int .u8 0, .int .u8 0, .int .u8 0, .int .u8 0, .int .u8 0, .int .u8 0, .int .u8 0, .int .u8 0, .int .u8 0, .int .u8 0, .int .u8 0, .int .u8 0, .int .u8 0, .int .u8 0, .int .u8 0] 39)).setRow w1.heap.size (arr b)).heap[w.heap.size]? = some (.cells #[.int .i64 0, .slice none 0 0] 24)) by
    rw [setRow_other _ _ _ _ (show w.heap.size ≠ w1.heap.size by have := hz3.out; omega)]
    exact var_alloc _ VH.out)
  have BX := hid (below_row (BH.out.alloc hz2.out (.cells #[.int .u8 0, .int .u8 0, .int .u8 0, .int .u8 0, .int .u8 0, .int .u8 0, .int .u8 0, .int .u8 0, .int .u8 0, .int .u8 0, .int .u8 0, .int .u8 0, .int .u8 0, .int .u8 0, .int .u8 0, .int .u8 0] 39)) (g := w1.heap.size) hz2.out (arr b))
  have V4 := hid (V3.out.row (l' := b))
  have SZ := hid (show ((w1.alloc (.cells #[.int .u8 0, .int .u8 0, .int .u8 0, .int .u8 0, .int .u8 0, .int .u8 0, .int .u8 0, .int .u8 0, .int .u8 0, .int .u8 0, .int .u8 0, .int .u8 0, .int .u8 0, .int .u8 0, .int .u8 0, .int .u8 0] 39)).setRow w1.heap.size (arr b)).heap.size = w1.heap.size + 1 by simp)
  clear VH BH
  have C4 : ((w1.alloc (.cells #[.int .u8 0, .int .u8 0, .int .u8 0, .int .u8 0, .int .u8 0, .int .u8 0, .int .u8 0, .int .u8 0, .int .u8 0, .int .u8 0, .int .u8 0, .int .u8 0, .int .u8 0, .int .u8 0, .int .u8 0, .int .u8 0] 39)).setRow w1.heap.size (arr b)).cell? ⟨gk, 0, none⟩ = some _ := cell_kept BX.out CK.out
  have C5 : ((w1.alloc (.cells #[.int .u8 0, .int .u8 0, .int .u8 0, .int .u8 0, .int .u8 0, .int .u8 0, .int .u8 0, .int .u8 0, .int .u8 0, .int .u8 0, .int .u8 0, .int .u8 0, .int .u8 0, .int .u8 0, .int .u8 0, .int .u8 0] 39)).setRow w1.heap.size (arr b)).cell? ⟨gd, 0, none⟩ = some _ := cell_kept BX.out CD.out
  go_wp2_with (refine wpList_store_row rfl 39 _ _ rfl w1.heap.size (arr b) rfl rfl 39 _ V3.out ZB.out (by rw [arr_size, arr_size, NB.out]; rfl) (arr_one _) ?_; generalize ((w1.alloc (.cells #[.int .u8 0, .int .u8 0, .int .u8 0, .int .u8 0, .int .u8 0, .int .u8 0, .int .u8 0, .int .u8 0, .int .u8 0, .int .u8 0, .int .u8 0, .int .u8 0, .int .u8 0, .int .u8 0, .int .u8 0, .int .u8 0] 39)).setRow w1.heap.size (arr b)) = W at *)
  rw [NK.out]
  refine (iskey_yes _ _ _).mono ?_
  rintro e W ⟨rfl, rfl⟩
  go_wp2_with fail
  have SX : (W.alloc (.cells #[.int .i64 (d.length : Int), .int .i64 0, .int .i64 600] 46)).heap[W.heap.size]? = some (.cells #[.int .i64 (d.length : Int), .int .i64 0, .int .i64 600] 46) := heap_alloc_new W _
  refine (within1 (d.length : Int) 0 600 W.heap.size _ SX).mono ?_
  rintro e w3 ⟨rfl, hM⟩
  replace hM := (below_alloc1 W (.cells #[.int .i64 (d.length : Int), .int .i64 0, .int .i64 600] 46)).trans (hM.mono (by simp))
  replace VR := hid (var_below hM VR.out)
  replace V4 := hid (V4.out.below hM)
  replace BX := hid (BX.out.trans (hM.mono BX.out.size))
  rw [WI.out]
  clear hM C4 C5 SX SZ
  obtain ⟨f1, f2, f3, f4⟩ := var2_facts VR.out
  have hset := hid (var2_set (x' := .int .i64 2) (y' := .slice none 0 0) VR.out)
  have hbel := hid (below_set2 (x := .int .i64 2) (y := .slice none 0 0) BX.out (Nat.le_refl _))
  go_wp2
  exact bodyPost_ret (v := .agg #[.int .i64 2, .slice none 0 0]) (results_cell_row rfl _ _ w.heap.size 24 _ _ _ rfl hset.out Try.underlying24 rfl (by kernel_rfl)) rfl ⟨rfl, hbel.out⟩

set_option maxHeartbeats 2000000 in
set_option maxRecDepth 100000 in
theorem sx1_ok (gk gb gd : Nat) (vk vb vd : Value) (k b d : List Nat) (w : World) (ck : Bx w gk vk) (cb : Bx w gb vb) (cd : Bx w gd vd) (hk : Rd w vk k) (hb : Rd w vb b) (hd : Rd w vd d) (yk : Byt k) (yb : Byt b) (yd : Byt d) (nb : b.length = 16) (nk : k.length = 16) (nd : d.length ≤ 600) :
    Calls Try.prog 30 #[.pointer (some ⟨gb, 0, none⟩), .pointer (some ⟨gk, 0, none⟩), .pointer (some ⟨gd, 0, none⟩)] w fun e w' => ∃ r, e = .returned (.agg #[.int .i64 0, r]) ∧ Owx w' w.heap.size r (strm (kf k) b d) ∧ Below w.heap.size w w' := by
  obtain ⟨pk, capk, rfl, -, -, -⟩ := hk.parts
  obtain ⟨pb, capb, rfl, -, -, -⟩ := hb.parts
  obtain ⟨pd, capd, rfl, -, -, -⟩ := hd.parts
  have B0 := below_alloc1 w (.cells #[.int .i64 0, .slice none 0 0] 24)
  have V0 := heap_alloc_new w (.cells #[.int .i64 0, .slice none 0 0] 24)
  have CB : (w.alloc (.cells #[.int .i64 0, .slice none 0 0] 24)).cell? ⟨gb, 0, none⟩ = some _ := cb.below B0
  have CK := hid ck
  have CD := hid cd
  have HR := hid (hb.below B0)
  have HK := hid hk
  have HD := hid hd
  have VH := hid V0
  have BH := hid B0
  have NB := hid nb
  clear ck cb cd hk hb hd V0 B0 nb
  go_enter Try.func30, Try.ntmps30
  go_wp2_with fail
  have NK := hid nk
  have WI := hid (show inB (d.length : Int) 0 600 = true by unfold inB; rw [decide_eq_true (by omega)])
  have ND := hid nd
  clear nk
  refine (blkof _ b _ HR.out NB.out).mono ?_
  rintro e w1 ⟨rfl, hM⟩
  replace VH := hid (var_below hM VH.out)
  replace BH := hid (BH.out.trans (hM.mono BH.out.size))
  clear CB HR hM
  have hz2 := hid (BH.out.size)
  have hz3 := hid (var_lt VH.out)
  have ZB := hid (blk_size b NB.out)
  have V3 := hid (show Ar _ _ _ (zs 16) from heap_alloc_new w1 (.cells #[.int .u8 0, .int .u8 0, .int .u8 0, .int .u8 0, .int .u8 0, .int .u8 0, .int .u8 0, .int .u8 0, .int .u8 0, .int .u8 0, .int .u8 0, .int .u8 0, .int .u8 0, .int .u8 0, .int .u8 0, .int .u8 0] 39))
  have VR := hid (show (((w1.alloc (.cells #[.int .u8 0, .int .u8 0, .int .u8 0, .int .u8 0, .int .u8 0, .int .u8 0, .int .u8 0, .int .u8 0, .int .u8 0, .int .u8 0, .int .u8 0, .int .u8 0, .int .u8 0, .int .u8 0, .int .u8 0, .int .u8 0] 39)).setRow w1.heap.size (arr b)).heap[w.heap.size]? = some (.cells #[.int .i64 0, .slice none 0 0] 24)) by
    rw [setRow_other _ _ _ _ (show w.heap.size ≠ w1.heap.size by have := hz3.out; omega)]
    exact var_alloc _ VH.out)
  have BX := hid (below_row (BH.out.alloc hz2.out (.cells #[.int .u8 0, .int .u8 0, .int .u8 0, .int .u8 0, .int .u8 0, .int .u8 0, .int .u8 0, .int .u8 0, .int .u8 0, .int .u8 0, .int .u8 0, .int .u8 0, .int .u8 0, .int .u8 0, .int .u8 0, .int .u8 0] 39)) (g := w1.heap.size) hz2.out (arr b))
  have V4 := hid (V3.out.row (l' := b))
  have SZ := hid (show ((w1.alloc (.cells #[.int .u8 0, .int .u8 0, .int .u8 0, .int .u8 0, .int .u8 0, .int .u8 0, .int .u8 0, .int .u8 0, .int .u8 0, .int .u8 0, .int .u8 0, .int .u8 0, .int .u8 0, .int .u8 0, .int .u8 0, .int .u8 0] 39)).setRow w1.heap.size (arr b)).heap.size = w1.heap.size + 1 by simp)
  clear VH BH
  have C4 : ((w1.alloc (.cells #[.int .u8 0, .int .u8 0, .int .u8 0, .int .u8 0, .int .u8 0, .int .u8 0, .int .u8 0, .int .u8 0, .int .u8 0, .int .u8 0, .int .u8 0, .int .u8 0, .int .u8 0, .int .u8 0, .int .u8 0, .int .u8 0] 39)).setRow w1.heap.size (arr b)).cell? ⟨gk, 0, none⟩ = some _ := cell_kept BX.out CK.out
  have C5 : ((w1.alloc (.cells #[.int .u8 0, .int .u8 0, .int .u8 0, .int .u8 0, .int .u8 0, .int .u8 0, .int .u8 0, .int .u8 0, .int .u8 0, .int .u8 0, .int .u8 0, .int .u8 0, .int .u8 0, .int .u8 0, .int .u8 0, .int .u8 0] 39)).setRow w1.heap.size (arr b)).cell? ⟨gd, 0, none⟩ = some _ := cell_kept BX.out CD.out
  go_wp2_with (refine wpList_store_row rfl 39 _ _ rfl w1.heap.size (arr b) rfl rfl 39 _ V3.out ZB.out (by rw [arr_size, arr_size, NB.out]; rfl) (arr_one _) ?_; generalize ((w1.alloc (.cells #[.int .u8 0, .int .u8 0, .int .u8 0, .int .u8 0, .int .u8 0, .int .u8 0, .int .u8 0, .int .u8 0, .int .u8 0, .int .u8 0, .int .u8 0, .int .u8 0, .int .u8 0, .int .u8 0, .int .u8 0, .int .u8 0] 39)).setRow w1.heap.size (arr b)) = W at *)
  rw [NK.out]
  refine (iskey_yes _ _ _).mono ?_
  rintro e W ⟨rfl, rfl⟩
  go_wp2_with fail
  have SX : (W.alloc (.cells #[.int .i64 (d.length : Int), .int .i64 0, .int .i64 600] 46)).heap[W.heap.size]? = some (.cells #[.int .i64 (d.length : Int), .int .i64 0, .int .i64 600] 46) := heap_alloc_new W _
  refine (within1 (d.length : Int) 0 600 W.heap.size _ SX).mono ?_
  rintro e w3 ⟨rfl, hM⟩
  replace hM := (below_alloc1 W (.cells #[.int .i64 (d.length : Int), .int .i64 0, .int .i64 600] 46)).trans (hM.mono (by simp))
  replace VR := hid (var_below hM VR.out)
  replace V4 := hid (V4.out.below hM)
  replace BX := hid (BX.out.trans (hM.mono BX.out.size))
  rw [WI.out]
  clear hM C4 C5 SX SZ
  have HKW := hid (HK.out.below BX.out)
  obtain ⟨b1, o1, e1⟩ : ∃ b1 o1, pk = some ⟨b1, o1, none⟩ := by
    obtain ⟨a, c, e, -, -, hc⟩ := HK.out
    obtain ⟨b1, o1, q, -⟩ := hc 0 (by rw [NK.out]; omega)
    cases e
    exact ⟨b1, o1, q⟩
  subst e1
  have RK := hid (rd_range HK.out)
  have ZK := hid (key_size k NK.out)
  have ZB2 := hid (blk_size b NB.out)
  rw [NK.out] at CK
  have P1 := arr_at 38 5 16 Try.underlying38 (some ⟨b1, o1, none⟩) 16 capk (Nat.le_refl _)
  have CK2 : Hid (Bx w gk (.slice (some ⟨b1, o1, none⟩) 16 capk)) := CK
  go_wp2_with fail
  have V1 : w3.drew.heap[w.heap.size]? = some (.cells #[.int .i64 0, .slice none 0 0] 24) := VR.out
  refine wp_region_held_drew (S := fun w' => Below w.heap.size w w' ∧ Ar w' w1.heap.size 39 b) (by kernel_rfl) ⟨BX.out.drew, V4.out.drew⟩ (fun hH => ?_)
  refine wpAnyH_take (i := 0) (v := .slice (some ⟨b1, o1, none⟩) 16 capk) (by simp only [List.getElem?_toArray, List.getElem?_cons_zero]; rfl) (by kernel_rfl) (by kernel_rfl) (by kernel_rfl) (by intro _ _ _ h; exact h) (Or.inl ⟨by rfl, fun w hS => by have c := CK2.out.below hS.1; unfold Bx at c; go_simp⟩) hH ?_
  simp only [Act.put, List.setIfInBounds_toArray, List.set_cons_zero, List.set_cons_succ]
  refine wpAnyH_take (i := 1) (v := .pointer (some ⟨b1, o1, none⟩)) (by simp only [List.getElem?_toArray, List.getElem?_cons_succ, List.getElem?_cons_zero]; rfl) (by kernel_rfl) (by kernel_rfl) (by kernel_rfl) (by intro _ _ _ h; exact h) (Or.inl ⟨by rfl, fun w hS => by go_simp⟩) hH ?_
  simp only [Act.put, List.setIfInBounds_toArray, List.set_cons_zero, List.set_cons_succ]
  refine wpAnyH_take (i := 2) (v := .agg (arr k)) (by simp only [List.getElem?_toArray, List.getElem?_cons_succ, List.getElem?_cons_zero]; rfl) (by kernel_rfl) (by kernel_rfl) (by kernel_rfl) (by intro _ _ _ h; exact h) (yieldsIf_load_mid (by rfl) _ _ rfl b1 o1 rfl (k.map bv) _ (fun w hS => rangeAt.below RK.out hS.1) Try.underlying38 rfl (by rw [List.length_map, ← arr_size]; exact ZK.out)) hH ?_
  simp only [Act.put, List.setIfInBounds_toArray, List.set_cons_zero, List.set_cons_succ]
  refine wpAnyH_take (i := 4) (v := .agg (arr b)) (by simp only [List.getElem?_toArray, List.getElem?_cons_succ, List.getElem?_cons_zero]; rfl) (by kernel_rfl) (by kernel_rfl) (by kernel_rfl) (by intro _ _ _ h; exact h) (yieldsIf_load_mid (by rfl) _ _ rfl w1.heap.size 0 rfl (b.map bv) _ (fun w hS => ar_all hS.2) Try.underlying39 rfl (by rw [List.length_map, ← arr_size]; exact ZB2.out)) hH ?_
  simp only [Act.put, List.setIfInBounds_toArray, List.set_cons_zero, List.set_cons_succ]
  refine wpAnyH_take (i := 5) (v := .slice pd d.length capd) (by simp only [List.getElem?_toArray, List.getElem?_cons_succ, List.getElem?_cons_zero]; rfl) (by kernel_rfl) (by kernel_rfl) (by kernel_rfl) (by intro _ _ _ h; exact h) (Or.inl ⟨by rfl, fun w hS => by have c := CD.out.below hS.1; unfold Bx at c; go_simp⟩) hH ?_
  simp only [Act.put, List.setIfInBounds_toArray, List.set_cons_zero, List.set_cons_succ]
  generalize w3.drew = x at hH V1 ⊢
  refine wpAnyH_ready (rs := [3]) (by kernel_rfl) (by simp) ?_
  refine AllReadyH.cons (by simp only [List.getElem?_toArray, List.getElem?_cons_succ, List.getElem?_cons_zero]; rfl) (fun K hK => ?_) AllReadyH.nil
  go_simp
  refine (cipof k _ NK.out yk).mono ?_
  rintro e x3 ⟨g, rfl, C, hg, hM⟩
  refine hK.out _ _ ⟨hH.1.trans (hM.mono hH.1.size), hH.2.below hM⟩ (fun hH => ?_)
  clear hK K
  replace V1 := var_below hM V1
  clear hM
  refine wpAnyH_ready (rs := [6]) (by kernel_rfl) (by simp) ?_
  refine AllReadyH.cons (by simp only [List.getElem?_toArray, List.getElem?_cons_succ, List.getElem?_cons_zero]; rfl) (fun K hK => ?_) AllReadyH.nil
  go_simp
  refine (istream g b _ d (kf k) _ C (kf_lt k yk) NB.out yb (HD.out.below hH.1) yd (by have := ND.out; omega)).mono ?_
  rintro e x6 ⟨rfl, O, hM⟩
  refine hK.out _ _ ⟨hH.1.trans (hM.mono hH.1.size), hH.2.below hM⟩ (fun hH => ?_)
  clear hK K
  have hz6 := var_lt V1
  have hz7 := hH.1.size
  replace V1 := var_below hM V1
  clear hM C
  generalize x3.heap.size = z3 at *
  refine wpAnyH_ready (rs := [7]) (by kernel_rfl) (by simp) ?_
  refine AllReadyH.cons (by simp only [List.getElem?_toArray, List.getElem?_cons_succ, List.getElem?_cons_zero]; rfl) (fun K hK => ?_) AllReadyH.nil
  go_simp
  refine hK.out _ _ hH (fun hH => ?_)
  clear hK K
  obtain ⟨f1, f2, f3, f4⟩ := var2_facts V1
  have hset := hid (var2_set (x' := .int .i64 0) (y' := .slice (some ⟨z3 + 1, 0, none⟩) d.length d.length) V1)
  have hbel := hid (below_set2 (x := .int .i64 0) (y := .slice (some ⟨z3 + 1, 0, none⟩) d.length d.length) hH.1 (Nat.le_refl _))
  have hown := hid ((O.set2 (g := w.heap.size) (x := .int .i64 0) (y := .slice (some ⟨z3 + 1, 0, none⟩) d.length d.length) hz6).mono (base' := w.heap.size) (by omega)).x
  have har := hid (Ar.far (Ar.far hH.2 (g' := w.heap.size) (k := 0) (.int .i64 0) (by have := hz3.out; omega)) (g' := w.heap.size) (k := 1) (.slice (some ⟨z3 + 1, 0, none⟩) d.length d.length) (by have := hz3.out; omega))
  clear V1 O
  refine wpAnyH_ready (rs := [8]) (by kernel_rfl) (by simp) ?_
  refine AllReadyH.cons (by simp only [List.getElem?_toArray, List.getElem?_cons_succ, List.getElem?_cons_zero]; rfl) (fun K hK => ?_) AllReadyH.nil
  go_simp
  refine hK.out _ _ ⟨hbel.out, har.out⟩ (fun _ => ?_)
  clear hK K
  refine wpAnyH_done (by kernel_rfl) ?_ _
  go_wp2
  exact bodyPost_ret (v := .agg #[.int .i64 0, .slice (some ⟨z3 + 1, 0, none⟩) d.length d.length]) (results_cell_row rfl _ _ w.heap.size 24 _ _ _ rfl hset.out Try.underlying24 rfl (by kernel_rfl)) rfl ⟨_, rfl, hown.out, hbel.out⟩
end Go.Proofs.Ytflnhjbanlpjiai.W
