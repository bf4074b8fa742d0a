/-
  What is hidden: the program's StreamXor's closure.
  What is recovered at the face: the program's atFace, over any closure.
  What the program's StreamXor hands on to its closure at the face.
  What is hidden: what the program's StreamXor answers.
  What CountUp tells: its code, its bytes.
  A block counted up: what the model's CountUp answers.
  A block as an answer: what the program's tellBlock answers.
  What the program's CountUp hands on to its closure at the face.
  A block counted up: the program's CountUp.
  The law of streams, out of the contracts of its callees.
-/
import Derived.Test.YtcmafbgfdddnnabGFnStreams1
import Derived.Test.YtcmafbgfdddnnabWithin
import Derived.Test.YtcmafbgfdddnnabBase
import Derived.Test.YtcmafbgfdddnnabSlX
import Derived.Defers
import Derived.Recover
import Derived.Test.YtcmafbgfdddnnabSxC
import Derived.Test.YtcmafbgfdddnnabCtrF
import Derived.Test.YtcmafbgfdddnnabL3cWalks
import Derived.Test.YtcmafbgfdddnnabDrawSx
import Derived.Test.YtcmafbgfdddnnabDrawC
import Derived.Test.YtcmafbgfdddnnabAtWalks
import Derived.Test.YtcmafbgfdddnnabLwWalks
import Derived.Test.YtcmafbgfdddnnabSsxWalks
import Derived.Test.YtcmafbgfdddnnabCut
import Derived.Lib.Bytes
import Derived.StillTailTactics
import Derived.Deep.RegionHeld3

namespace Go.Proofs.Ytcmafbgfdddnnab.W
open Go.ChangeShapes Go.WideShapes Go.ChangeAt Go.RowKit
open Go.Proofs.Ytcmafbgfdddnnab.M

theorem ar_all {w : World} {g : Nat} {T : TypeId} {l : List Nat} (h : Ar w g T l) : w.rangeAt g 0 (l.map bv) := fun j v hv => by
  rw [cell_of_row w g (0 + j) _ _ _ h, Nat.zero_add]
  simp [arr, hv]

set_option maxHeartbeats 2000000 in
set_option maxRecDepth 100000 in
theorem sx1_no (gk gb gd : Nat) (vk vb vd : Value) (k b d : List Nat) (w : World) (ck : Bx w gk vk) (cb : Bx w gb vb) (cd : Bx w gd vd) (hk : Rd w vk k) (hb : Rd w vb b) (hd : Rd w vd d) (nb : b.length ≠ 16) :
    Calls Try.prog 48 #[.pointer (some ⟨gb, 0, none⟩), .pointer (some ⟨gk, 0, none⟩), .pointer (some ⟨gd, 0, none⟩)] w fun e w' => e = .panicked [{ v := .iface 9 (.string { data := #[110, 111, 32, 98, 108, 111, 99, 107] }), recovered := false }] ∧ Below w.heap.size w w' := by
  obtain ⟨pk, capk, rfl, -, -, -⟩ := hk.parts
  obtain ⟨pb, capb, rfl, -, -, -⟩ := hb.parts
  obtain ⟨pd, capd, rfl, -, -, -⟩ := hd.parts
  have B0 := below_alloc1 w (.cells #[.int .i64 0, .slice none 0 0] 27)
  have V0 := heap_alloc_new w (.cells #[.int .i64 0, .slice none 0 0] 27)
  have CB : (w.alloc (.cells #[.int .i64 0, .slice none 0 0] 27)).cell? ⟨gb, 0, none⟩ = some _ := cb.below B0
  have CK := hid ck
  have CD := hid cd
  have HR := hid (hb.below B0)
  have HK := hid hk
  have HD := hid hd
  have VH := hid V0
  have BH := hid B0
  have NB := hid nb
  clear ck cb cd hk hb hd V0 B0 nb
  go_enter Try.func48, Try.ntmps48
  go_wp2_with fail
  refine (blkof_no _ b _ HR.out NB.out).mono ?_
  rintro e w1 ⟨rfl, hM⟩
  exact ⟨rfl, rfl, BH.out.trans (hM.mono BH.out.size)⟩

set_option maxHeartbeats 2000000 in
set_option maxRecDepth 100000 in
theorem sx1_key (gk gb gd : Nat) (vk vb vd : Value) (k b d : List Nat) (w : World) (ck : Bx w gk vk) (cb : Bx w gb vb) (cd : Bx w gd vd) (hk : Rd w vk k) (hb : Rd w vb b) (hd : Rd w vd d) (nb : b.length = 16) (nk : k.length ≠ 16) :
    Calls Try.prog 48 #[.pointer (some ⟨gb, 0, none⟩), .pointer (some ⟨gk, 0, none⟩), .pointer (some ⟨gd, 0, none⟩)] w fun e w' => e = .returned (.agg #[.int .i64 2, .slice none 0 0]) ∧ Below w.heap.size w w' := by
  obtain ⟨pk, capk, rfl, -, -, -⟩ := hk.parts
  obtain ⟨pb, capb, rfl, -, -, -⟩ := hb.parts
  obtain ⟨pd, capd, rfl, -, -, -⟩ := hd.parts
  have B0 := below_alloc1 w (.cells #[.int .i64 0, .slice none 0 0] 27)
  have V0 := heap_alloc_new w (.cells #[.int .i64 0, .slice none 0 0] 27)
  have CB : (w.alloc (.cells #[.int .i64 0, .slice none 0 0] 27)).cell? ⟨gb, 0, none⟩ = some _ := cb.below B0
  have CK := hid ck
  have CD := hid cd
  have HR := hid (hb.below B0)
  have HK := hid hk
  have HD := hid hd
  have VH := hid V0
  have BH := hid B0
  have NB := hid nb
  clear ck cb cd hk hb hd V0 B0 nb
  go_enter Try.func48, Try.ntmps48
  go_wp2_with fail
  have NK := hid nk
  clear nk
  refine (blkof _ b _ HR.out NB.out).mono ?_
  rintro e w1 ⟨rfl, hM⟩
  replace VH := hid (var_below hM VH.out)
  replace BH := hid (BH.out.trans (hM.mono BH.out.size))
  clear CB HR hM
  have hz2 := hid (BH.out.size)
  have hz3 := hid (var_lt VH.out)
  have ZB := hid (blk_size b NB.out)
  have V3 := hid (show Ar _ _ _ (zs 16) from heap_alloc_new w1 (.cells #[.int .u8 0, .int .u8 0, .int .u8 0, .int .u8 0, .int .u8 0, .int .u8 0, .int .u8 0, .int .u8 0, .int .u8 0, .int .u8 0, .int .u8 0, .int .u8 0, .int .u8 0, .int .u8 0, .int .u8 0, .int .u8 0] 68))
  have VR := hid (show (((w1.alloc (.cells #[.int .u8 0, .int .u8 0, .int .u8 0, .int .u8 0, .int .u8 0, .int .u8 0, .int .u8 0, .int .u8 0, .int .u8 0, .int .u8 0, .int .u8 0, .int .u8 0, .int .u8 0, .int .u8 0, .int .u8 0, .int .u8 0] 68)).setRow w1.heap.size (arr b)).heap[w.heap.size]? = some (.cells #[.int .i64 0, .slice none 0 0] 27)) by
    rw [setRow_other _ _ _ _ (show w.heap.size ≠ w1.heap.size by have := hz3.out; omega)]
    exact var_alloc _ VH.out)
  have BX := hid (below_row (BH.out.alloc hz2.out (.cells #[.int .u8 0, .int .u8 0, .int .u8 0, .int .u8 0, .int .u8 0, .int .u8 0, .int .u8 0, .int .u8 0, .int .u8 0, .int .u8 0, .int .u8 0, .int .u8 0, .int .u8 0, .int .u8 0, .int .u8 0, .int .u8 0] 68)) (g := w1.heap.size) hz2.out (arr b))
  have V4 := hid (V3.out.row (l' := b))
  have SZ := hid (show ((w1.alloc (.cells #[.int .u8 0, .int .u8 0, .int .u8 0, .int .u8 0, .int .u8 0, .int .u8 0, .int .u8 0, .int .u8 0, .int .u8 0, .int .u8 0, .int .u8 0, .int .u8 0, .int .u8 0, .int .u8 0, .int .u8 0, .int .u8 0] 68)).setRow w1.heap.size (arr b)).heap.size = w1.heap.size + 1 by simp)
  clear VH BH
  have C4 : ((w1.alloc (.cells #[.int .u8 0, .int .u8 0, .int .u8 0, .int .u8 0, .int .u8 0, .int .u8 0, .int .u8 0, .int .u8 0, .int .u8 0, .int .u8 0, .int .u8 0, .int .u8 0, .int .u8 0, .int .u8 0, .int .u8 0, .int .u8 0] 68)).setRow w1.heap.size (arr b)).cell? ⟨gk, 0, none⟩ = some _ := cell_kept BX.out CK.out
  have C5 : ((w1.alloc (.cells #[.int .u8 0, .int .u8 0, .int .u8 0, .int .u8 0, .int .u8 0, .int .u8 0, .int .u8 0, .int .u8 0, .int .u8 0, .int .u8 0, .int .u8 0, .int .u8 0, .int .u8 0, .int .u8 0, .int .u8 0, .int .u8 0] 68)).setRow w1.heap.size (arr b)).cell? ⟨gd, 0, none⟩ = some _ := cell_kept BX.out CD.out
  go_wp2_with (refine wpList_store_row rfl 68 _ _ rfl w1.heap.size (arr b) rfl rfl 68 _ V3.out ZB.out (by rw [arr_size, arr_size, NB.out]; rfl) (arr_one _) ?_; generalize ((w1.alloc (.cells #[.int .u8 0, .int .u8 0, .int .u8 0, .int .u8 0, .int .u8 0, .int .u8 0, .int .u8 0, .int .u8 0, .int .u8 0, .int .u8 0, .int .u8 0, .int .u8 0, .int .u8 0, .int .u8 0, .int .u8 0, .int .u8 0] 68)).setRow w1.heap.size (arr b)) = W at *)
  refine (iskey_no _ _ _ NK.out _).mono ?_
  rintro e w' ⟨rfl, rfl⟩
  obtain ⟨f1, f2, f3, f4⟩ := var2_facts VR.out
  have hset := hid (var2_set (x' := .int .i64 2) (y' := .slice none 0 0) VR.out)
  have hbel := hid (below_set2 (x := .int .i64 2) (y := .slice none 0 0) BX.out (Nat.le_refl _))
  go_wp2
  exact bodyPost_ret (v := .agg #[.int .i64 2, .slice none 0 0]) (results_cell_row rfl _ _ w.heap.size 27 _ _ _ rfl hset.out Try.underlying27 rfl (by kernel_rfl)) rfl ⟨rfl, hbel.out⟩

set_option maxHeartbeats 2000000 in
set_option maxRecDepth 100000 in
theorem sx1_many (gk gb gd : Nat) (vk vb vd : Value) (k b d : List Nat) (w : World) (ck : Bx w gk vk) (cb : Bx w gb vb) (cd : Bx w gd vd) (hk : Rd w vk k) (hb : Rd w vb b) (hd : Rd w vd d) (nb : b.length = 16) (nk : k.length = 16) (nd : 600 < d.length) :
    Calls Try.prog 48 #[.pointer (some ⟨gb, 0, none⟩), .pointer (some ⟨gk, 0, none⟩), .pointer (some ⟨gd, 0, none⟩)] w fun e w' => e = .returned (.agg #[.int .i64 2, .slice none 0 0]) ∧ Below w.heap.size w w' := by
  obtain ⟨pk, capk, rfl, -, -, -⟩ := hk.parts
  obtain ⟨pb, capb, rfl, -, -, -⟩ := hb.parts
  obtain ⟨pd, capd, rfl, -, -, -⟩ := hd.parts
  have B0 := below_alloc1 w (.cells #[.int .i64 0, .slice none 0 0] 27)
  have V0 := heap_alloc_new w (.cells #[.int .i64 0, .slice none 0 0] 27)
  have CB : (w.alloc (.cells #[.int .i64 0, .slice none 0 0] 27)).cell? ⟨gb, 0, none⟩ = some _ := cb.below B0
  have CK := hid ck
  have CD := hid cd
  have HR := hid (hb.below B0)
  have HK := hid hk
  have HD := hid hd
  have VH := hid V0
  have BH := hid B0
  have NB := hid nb
  clear ck cb cd hk hb hd V0 B0 nb
  go_enter Try.func48, Try.ntmps48
  go_wp2_with fail
  have NK := hid nk
  have WI := hid (show inB (d.length : Int) 0 600 = false by unfold inB; rw [decide_eq_false (by omega)])
  clear nk
  refine (blkof _ b _ HR.out NB.out).mono ?_
  rintro e w1 ⟨rfl, hM⟩
  replace VH := hid (var_below hM VH.out)
  replace BH := hid (BH.out.trans (hM.mono BH.out.size))
  clear CB HR hM
  have hz2 := hid (BH.out.size)
  have hz3 := hid (var_lt VH.out)
  have ZB := hid (blk_size b NB.out)
  have V3 := hid (show Ar _ _ _ (zs 16) from heap_alloc_new w1 (.cells #[.int .u8 0, .int .u8 0, .int .u8 0, .int .u8 0, .int .u8 0, .int .u8 0, .int .u8 0, .int .u8 0, .int .u8 0, .int .u8 0, .int .u8 0, .int .u8 0, .int .u8 0, .int .u8 0, .int .u8 0, .int .u8 0] 68))
  have VR := hid (show (((w1.alloc (.cells #[.int .u8 0, .int .u8 0, .int .u8 0, .int .u8 0, .int .u8 0, .int .u8 0, .int .u8 0, .int .u8 0, .int .u8 0, .int .u8 0, .int .u8 0, .int .u8 0, .int .u8 0, .int .u8 0, .int .u8 0, .int .u8 0] 68)).setRow w1.heap.size (arr b)).heap[w.heap.size]? = some (.cells #[.int .i64 0, .slice none 0 0] 27)) by
    rw [setRow_other _ _ _ _ (show w.heap.size ≠ w1.heap.size by have := hz3.out; omega)]
    exact var_alloc _ VH.out)
  have BX := hid (below_row (BH.out.alloc hz2.out (.cells #[.int .u8 0, .int .u8 0, .int .u8 0, .int .u8 0, .int .u8 0, .int .u8 0, .int .u8 0, .int .u8 0, .int .u8 0, .int .u8 0, .int .u8 0, .int .u8 0, .int .u8 0, .int .u8 0, .int .u8 0, .int .u8 0] 68)) (g := w1.heap.size) hz2.out (arr b))
  have V4 := hid (V3.out.row (l' := b))
  have SZ := hid (show ((w1.alloc (.cells #[.int .u8 0, .int .u8 0, .int .u8 0, .int .u8 0, .int .u8 0, .int .u8 0, .int .u8 0, .int .u8 0, .int .u8 0, .int .u8 0, .int .u8 0, .int .u8 0, .int .u8 0, .int .u8 0, .int .u8 0, .int .u8 0] 68)).setRow w1.heap.size (arr b)).heap.size = w1.heap.size + 1 by simp)
  clear VH BH
  have C4 : ((w1.alloc (.cells #[.int .u8 0, .int .u8 0, .int .u8 0, .int .u8 0, .int .u8 0, .int .u8 0, .int .u8 0, .int .u8 0, .int .u8 0, .int .u8 0, .int .u8 0, .int .u8 0, .int .u8 0, .int .u8 0, .int .u8 0, .int .u8 0] 68)).setRow w1.heap.size (arr b)).cell? ⟨gk, 0, none⟩ = some _ := cell_kept BX.out CK.out
  have C5 : ((w1.alloc (.cells #[.int .u8 0, .int .u8 0, .int .u8 0, .int .u8 0, .int .u8 0, .int .u8 0, .int .u8 0, .int .u8 0, .int .u8 0, .int .u8 0, .int .u8 0, .int .u8 0, .int .u8 0, .int .u8 0, .int .u8 0, .int .u8 0] 68)).setRow w1.heap.size (arr b)).cell? ⟨gd, 0, none⟩ = some _ := cell_kept BX.out CD.out
  go_wp2_with (refine wpList_store_row rfl 68 _ _ rfl w1.heap.size (arr b) rfl rfl 68 _ V3.out ZB.out (by rw [arr_size, arr_size, NB.out]; rfl) (arr_one _) ?_; generalize ((w1.alloc (.cells #[.int .u8 0, .int .u8 0, .int .u8 0, .int .u8 0, .int .u8 0, .int .u8 0, .int .u8 0, .int .u8 0, .int .u8 0, .int .u8 0, .int .u8 0, .int .u8 0, .int .u8 0, .int .u8 0, .int .u8 0, .int .u8 0] 68)).setRow w1.heap.size (arr b)) = W at *)
  rw [NK.out]
  refine (iskey_yes _ _ _).mono ?_
  rintro e W ⟨rfl, rfl⟩
  go_wp2_with fail
  have SX : (W.alloc (.cells #[.int .i64 (d.length : Int), .int .i64 0, .int .i64 600] 72)).heap[W.heap.size]? = some (.cells #[.int .i64 (d.length : Int), .int .i64 0, .int .i64 600] 72) := heap_alloc_new W _
  refine (within1 (d.length : Int) 0 600 W.heap.size _ SX).mono ?_
  rintro e w3 ⟨rfl, hM⟩
  replace hM := (below_alloc1 W (.cells #[.int .i64 (d.length : Int), .int .i64 0, .int .i64 600] 72)).trans (hM.mono (by simp))
  replace VR := hid (var_below hM VR.out)
  replace V4 := hid (V4.out.below hM)
  replace BX := hid (BX.out.trans (hM.mono BX.out.size))
  rw [WI.out]
  clear hM C4 C5 SX SZ
  obtain ⟨f1, f2, f3, f4⟩ := var2_facts VR.out
  have hset := hid (var2_set (x' := .int .i64 2) (y' := .slice none 0 0) VR.out)
  have hbel := hid (below_set2 (x := .int .i64 2) (y := .slice none 0 0) BX.out (Nat.le_refl _))
  go_wp2
  exact bodyPost_ret (v := .agg #[.int .i64 2, .slice none 0 0]) (results_cell_row rfl _ _ w.heap.size 27 _ _ _ rfl hset.out Try.underlying27 rfl (by kernel_rfl)) rfl ⟨rfl, hbel.out⟩

set_option maxHeartbeats 2000000 in
set_option maxRecDepth 100000 in
theorem sx1_ok (gk gb gd : Nat) (vk vb vd : Value) (k b d : List Nat) (w : World) (ck : Bx w gk vk) (cb : Bx w gb vb) (cd : Bx w gd vd) (hk : Rd w vk k) (hb : Rd w vb b) (hd : Rd w vd d) (yk : Byt k) (yb : Byt b) (yd : Byt d) (nb : b.length = 16) (nk : k.length = 16) (nd : d.length ≤ 600) :
    Calls Try.prog 48 #[.pointer (some ⟨gb, 0, none⟩), .pointer (some ⟨gk, 0, none⟩), .pointer (some ⟨gd, 0, none⟩)] w fun e w' => ∃ r, e = .returned (.agg #[.int .i64 0, r]) ∧ Owx w' w.heap.size r (strm (kf k) b d) ∧ Below w.heap.size w w' := by
  obtain ⟨pk, capk, rfl, -, -, -⟩ := hk.parts
  obtain ⟨pb, capb, rfl, -, -, -⟩ := hb.parts
  obtain ⟨pd, capd, rfl, -, -, -⟩ := hd.parts
  have B0 := below_alloc1 w (.cells #[.int .i64 0, .slice none 0 0] 27)
  have V0 := heap_alloc_new w (.cells #[.int .i64 0, .slice none 0 0] 27)
  have CB : (w.alloc (.cells #[.int .i64 0, .slice none 0 0] 27)).cell? ⟨gb, 0, none⟩ = some _ := cb.below B0
  have CK := hid ck
  have CD := hid cd
  have HR := hid (hb.below B0)
  have HK := hid hk
  have HD := hid hd
  have VH := hid V0
  have BH := hid B0
  have NB := hid nb
  clear ck cb cd hk hb hd V0 B0 nb
  go_enter Try.func48, Try.ntmps48
  go_wp2_with fail
  have NK := hid nk
  have WI := hid (show inB (d.length : Int) 0 600 = true by unfold inB; rw [decide_eq_true (by omega)])
  have ND := hid nd
  clear nk
  refine (blkof _ b _ HR.out NB.out).mono ?_
  rintro e w1 ⟨rfl, hM⟩
  replace VH := hid (var_below hM VH.out)
  replace BH := hid (BH.out.trans (hM.mono BH.out.size))
  clear CB HR hM
  have hz2 := hid (BH.out.size)
  have hz3 := hid (var_lt VH.out)
  have ZB := hid (blk_size b NB.out)
  have V3 := hid (show Ar _ _ _ (zs 16) from heap_alloc_new w1 (.cells #[.int .u8 0, .int .u8 0, .int .u8 0, .int .u8 0, .int .u8 0, .int .u8 0, .int .u8 0, .int .u8 0, .int .u8 0, .int .u8 0, .int .u8 0, .int .u8 0, .int .u8 0, .int .u8 0, .int .u8 0, .int .u8 0] 68))
  have VR := hid (show (((w1.alloc (.cells #[.int .u8 0, .int .u8 0, .int .u8 0, .int .u8 0, .int .u8 0, .int .u8 0, .int .u8 0, .int .u8 0, .int .u8 0, .int .u8 0, .int .u8 0, .int .u8 0, .int .u8 0, .int .u8 0, .int .u8 0, .int .u8 0] 68)).setRow w1.heap.size (arr b)).heap[w.heap.size]? = some (.cells #[.int .i64 0, .slice none 0 0] 27)) by
    rw [setRow_other _ _ _ _ (show w.heap.size ≠ w1.heap.size by have := hz3.out; omega)]
    exact var_alloc _ VH.out)
  have BX := hid (below_row (BH.out.alloc hz2.out (.cells #[.int .u8 0, .int .u8 0, .int .u8 0, .int .u8 0, .int .u8 0, .int .u8 0, .int .u8 0, .int .u8 0, .int .u8 0, .int .u8 0, .int .u8 0, .int .u8 0, .int .u8 0, .int .u8 0, .int .u8 0, .int .u8 0] 68)) (g := w1.heap.size) hz2.out (arr b))
  have V4 := hid (V3.out.row (l' := b))
  have SZ := hid (show ((w1.alloc (.cells #[.int .u8 0, .int .u8 0, .int .u8 0, .int .u8 0, .int .u8 0, .int .u8 0, .int .u8 0, .int .u8 0, .int .u8 0, .int .u8 0, .int .u8 0, .int .u8 0, .int .u8 0, .int .u8 0, .int .u8 0, .int .u8 0] 68)).setRow w1.heap.size (arr b)).heap.size = w1.heap.size + 1 by simp)
  clear VH BH
  have C4 : ((w1.alloc (.cells #[.int .u8 0, .int .u8 0, .int .u8 0, .int .u8 0, .int .u8 0, .int .u8 0, .int .u8 0, .int .u8 0, .int .u8 0, .int .u8 0, .int .u8 0, .int .u8 0, .int .u8 0, .int .u8 0, .int .u8 0, .int .u8 0] 68)).setRow w1.heap.size (arr b)).cell? ⟨gk, 0, none⟩ = some _ := cell_kept BX.out CK.out
  have C5 : ((w1.alloc (.cells #[.int .u8 0, .int .u8 0, .int .u8 0, .int .u8 0, .int .u8 0, .int .u8 0, .int .u8 0, .int .u8 0, .int .u8 0, .int .u8 0, .int .u8 0, .int .u8 0, .int .u8 0, .int .u8 0, .int .u8 0, .int .u8 0] 68)).setRow w1.heap.size (arr b)).cell? ⟨gd, 0, none⟩ = some _ := cell_kept BX.out CD.out
  go_wp2_with (refine wpList_store_row rfl 68 _ _ rfl w1.heap.size (arr b) rfl rfl 68 _ V3.out ZB.out (by rw [arr_size, arr_size, NB.out]; rfl) (arr_one _) ?_; generalize ((w1.alloc (.cells #[.int .u8 0, .int .u8 0, .int .u8 0, .int .u8 0, .int .u8 0, .int .u8 0, .int .u8 0, .int .u8 0, .int .u8 0, .int .u8 0, .int .u8 0, .int .u8 0, .int .u8 0, .int .u8 0, .int .u8 0, .int .u8 0] 68)).setRow w1.heap.size (arr b)) = W at *)
  rw [NK.out]
  refine (iskey_yes _ _ _).mono ?_
  rintro e W ⟨rfl, rfl⟩
  go_wp2_with fail
  have SX : (W.alloc (.cells #[.int .i64 (d.length : Int), .int .i64 0, .int .i64 600] 72)).heap[W.heap.size]? = some (.cells #[.int .i64 (d.length : Int), .int .i64 0, .int .i64 600] 72) := heap_alloc_new W _
  refine (within1 (d.length : Int) 0 600 W.heap.size _ SX).mono ?_
  rintro e w3 ⟨rfl, hM⟩
  replace hM := (below_alloc1 W (.cells #[.int .i64 (d.length : Int), .int .i64 0, .int .i64 600] 72)).trans (hM.mono (by simp))
  replace VR := hid (var_below hM VR.out)
  replace V4 := hid (V4.out.below hM)
  replace BX := hid (BX.out.trans (hM.mono BX.out.size))
  rw [WI.out]
  clear hM C4 C5 SX SZ
  have HKW := hid (HK.out.below BX.out)
  obtain ⟨b1, o1, e1⟩ : ∃ b1 o1, pk = some ⟨b1, o1, none⟩ := by
    obtain ⟨a, c, e, -, -, hc⟩ := HK.out
    obtain ⟨b1, o1, q, -⟩ := hc 0 (by rw [NK.out]; omega)
    cases e
    exact ⟨b1, o1, q⟩
  subst e1
  have RK := hid (rd_range HK.out)
  have ZK := hid (key_size k NK.out)
  have ZB2 := hid (blk_size b NB.out)
  rw [NK.out] at CK
  have P1 := arr_at 67 5 16 Try.underlying67 (some ⟨b1, o1, none⟩) 16 capk (Nat.le_refl _)
  have CK2 : Hid (Bx w gk (.slice (some ⟨b1, o1, none⟩) 16 capk)) := CK
  go_wp2_with fail
  have V1 : w3.drew.heap[w.heap.size]? = some (.cells #[.int .i64 0, .slice none 0 0] 27) := VR.out
  refine wp_region_held_drew (S := fun w' => Below w.heap.size w w' ∧ Ar w' w1.heap.size 68 b) (by kernel_rfl) ⟨BX.out.drew, V4.out.drew⟩ (fun hH => ?_)
  refine wpAnyH_take (i := 0) (v := .slice (some ⟨b1, o1, none⟩) 16 capk) (by simp only [List.getElem?_toArray, List.getElem?_cons_zero]; rfl) (by kernel_rfl) (by kernel_rfl) (by kernel_rfl) (by intro _ _ _ h; exact h) (Or.inl ⟨by rfl, fun w hS => by have c := CK2.out.below hS.1; unfold Bx at c; go_simp⟩) hH ?_
  simp only [Act.put, List.setIfInBounds_toArray, List.set_cons_zero, List.set_cons_succ]
  refine wpAnyH_take (i := 1) (v := .pointer (some ⟨b1, o1, none⟩)) (by simp only [List.getElem?_toArray, List.getElem?_cons_succ, List.getElem?_cons_zero]; rfl) (by kernel_rfl) (by kernel_rfl) (by kernel_rfl) (by intro _ _ _ h; exact h) (Or.inl ⟨by rfl, fun w hS => by go_simp⟩) hH ?_
  simp only [Act.put, List.setIfInBounds_toArray, List.set_cons_zero, List.set_cons_succ]
  refine wpAnyH_take (i := 2) (v := .agg (arr k)) (by simp only [List.getElem?_toArray, List.getElem?_cons_succ, List.getElem?_cons_zero]; rfl) (by kernel_rfl) (by kernel_rfl) (by kernel_rfl) (by intro _ _ _ h; exact h) (yieldsIf_load_mid (by rfl) _ _ rfl b1 o1 rfl (k.map bv) _ (fun w hS => rangeAt.below RK.out hS.1) Try.underlying67 rfl (by rw [List.length_map, ← arr_size]; exact ZK.out)) hH ?_
  simp only [Act.put, List.setIfInBounds_toArray, List.set_cons_zero, List.set_cons_succ]
  refine wpAnyH_take (i := 4) (v := .agg (arr b)) (by simp only [List.getElem?_toArray, List.getElem?_cons_succ, List.getElem?_cons_zero]; rfl) (by kernel_rfl) (by kernel_rfl) (by kernel_rfl) (by intro _ _ _ h; exact h) (yieldsIf_load_mid (by rfl) _ _ rfl w1.heap.size 0 rfl (b.map bv) _ (fun w hS => ar_all hS.2) Try.underlying68 rfl (by rw [List.length_map, ← arr_size]; exact ZB2.out)) hH ?_
  simp only [Act.put, List.setIfInBounds_toArray, List.set_cons_zero, List.set_cons_succ]
  refine wpAnyH_take (i := 5) (v := .slice pd d.length capd) (by simp only [List.getElem?_toArray, List.getElem?_cons_succ, List.getElem?_cons_zero]; rfl) (by kernel_rfl) (by kernel_rfl) (by kernel_rfl) (by intro _ _ _ h; exact h) (Or.inl ⟨by rfl, fun w hS => by have c := CD.out.below hS.1; unfold Bx at c; go_simp⟩) hH ?_
  simp only [Act.put, List.setIfInBounds_toArray, List.set_cons_zero, List.set_cons_succ]
  generalize w3.drew = x at hH V1 ⊢
  refine wpAnyH_ready (rs := [3]) (by kernel_rfl) (by simp) ?_
  refine AllReadyH.cons (by simp only [List.getElem?_toArray, List.getElem?_cons_succ, List.getElem?_cons_zero]; rfl) (fun K hK => ?_) AllReadyH.nil
  go_simp
  refine (cipof k _ NK.out yk).mono ?_
  rintro e x3 ⟨g, rfl, C, hg, hM⟩
  refine hK.out _ _ ⟨hH.1.trans (hM.mono hH.1.size), hH.2.below hM⟩ (fun hH => ?_)
  clear hK K
  replace V1 := var_below hM V1
  clear hM
  refine wpAnyH_ready (rs := [6]) (by kernel_rfl) (by simp) ?_
  refine AllReadyH.cons (by simp only [List.getElem?_toArray, List.getElem?_cons_succ, List.getElem?_cons_zero]; rfl) (fun K hK => ?_) AllReadyH.nil
  go_simp
  refine (istream g b _ d (kf k) _ C (kf_lt k yk) NB.out yb (HD.out.below hH.1) yd (by have := ND.out; omega)).mono ?_
  rintro e x6 ⟨rfl, O, hM⟩
  refine hK.out _ _ ⟨hH.1.trans (hM.mono hH.1.size), hH.2.below hM⟩ (fun hH => ?_)
  clear hK K
  have hz6 := var_lt V1
  have hz7 := hH.1.size
  replace V1 := var_below hM V1
  clear hM C
  generalize x3.heap.size = z3 at *
  refine wpAnyH_ready (rs := [7]) (by kernel_rfl) (by simp) ?_
  refine AllReadyH.cons (by simp only [List.getElem?_toArray, List.getElem?_cons_succ, List.getElem?_cons_zero]; rfl) (fun K hK => ?_) AllReadyH.nil
  go_simp
  refine hK.out _ _ hH (fun hH => ?_)
  clear hK K
  obtain ⟨f1, f2, f3, f4⟩ := var2_facts V1
  have hset := hid (var2_set (x' := .int .i64 0) (y' := .slice (some ⟨z3 + 1, 0, none⟩) d.length d.length) V1)
  have hbel := hid (below_set2 (x := .int .i64 0) (y := .slice (some ⟨z3 + 1, 0, none⟩) d.length d.length) hH.1 (Nat.le_refl _))
  have hown := hid ((O.set2 (g := w.heap.size) (x := .int .i64 0) (y := .slice (some ⟨z3 + 1, 0, none⟩) d.length d.length) hz6).mono (base' := w.heap.size) (by omega)).x
  have har := hid (Ar.far (Ar.far hH.2 (g' := w.heap.size) (k := 0) (.int .i64 0) (by have := hz3.out; omega)) (g' := w.heap.size) (k := 1) (.slice (some ⟨z3 + 1, 0, none⟩) d.length d.length) (by have := hz3.out; omega))
  clear V1 O
  refine wpAnyH_ready (rs := [8]) (by kernel_rfl) (by simp) ?_
  refine AllReadyH.cons (by simp only [List.getElem?_toArray, List.getElem?_cons_succ, List.getElem?_cons_zero]; rfl) (fun K hK => ?_) AllReadyH.nil
  go_simp
  refine hK.out _ _ ⟨hbel.out, har.out⟩ (fun _ => ?_)
  clear hK K
  refine wpAnyH_done (by kernel_rfl) ?_ _
  go_wp2
  exact bodyPost_ret (v := .agg #[.int .i64 0, .slice (some ⟨z3 + 1, 0, none⟩) d.length d.length]) (results_cell_row rfl _ _ w.heap.size 27 _ _ _ rfl hset.out Try.underlying27 rfl (by kernel_rfl)) rfl ⟨_, rfl, hown.out, hbel.out⟩
end Go.Proofs.Ytcmafbgfdddnnab.W

namespace Go.Proofs.Ytcmafbgfdddnnab.W
open Go.ChangeShapes Go.WideShapes Go.ChangeAt Go.RowKit
open Go.Proofs.Ytcmafbgfdddnnab.M

theorem run_into {f : FuncId} {fn : Func} {c : Code} (hf : Try.prog.funcs[f]? = some fn) (hn : (fn.name == "runtime.NumGoroutine") = false) (hb : fn.body = some c) (a : Array Value) (w : World) : (callFunc f a).run Try.prog w = .ok (.enter f a) w := by
  have hn' : ¬ fn.name = "runtime.NumGoroutine" := by simpa using hn
  simp [callFunc, hf, hn', hb, go_sem]
theorem catch_panic (g : Nat) (u : TypeId) (pv x y : Value) (w : World) (hv : w.heap[g]? = some (.cells #[x, y] 27)) :
    CallsD Try.prog 94 #[.pointer (some ⟨g, 0, none⟩)] (.panicking [{ v := .iface u pv, recovered := false }]) w fun e u' w' =>
      e = .returned (.tuple #[]) ∧ u' = .panicking [{ v := .iface u pv, recovered := true }] ∧ w' = (w.setCell ⟨g, 0, none⟩ (.int .i64 2)).setCell ⟨g, 1, none⟩ (.slice none 0 0) := by
  obtain ⟨f1, f2, f3, f4⟩ := var2_facts hv
  refine callsD_of_wpS Try.func94 rfl fun c₀ cs hu => ?_
  apply wpS_seq
  apply wpS_region
  simp [wpOpsS, go_sem, recoverD, hu, Try.ntmps94, Exit.thenS]
  refine wpS_cond (t := true) (by simp [Act.eval, Array.replicate]) ?_
  simp only [if_true]
  refine wpS_of_wp ?_
  go_wp2
  simp [bodyPostS, results, Try.results94]
theorem catch_idle (p : Addr) (w : World) :
    CallsD Try.prog 94 #[.pointer (some p)] .returning w fun e u' w' => e = .returned (.tuple #[]) ∧ u' = .returning ∧ w' = w := by
  refine callsD_of_wpS Try.func94 rfl fun c₀ cs hu => ?_
  apply wpS_seq
  apply wpS_region
  simp [wpOpsS, go_sem, recoverD, hu, Try.ntmps94, Exit.thenS]
  refine wpS_cond (t := false) (by simp [Act.eval, Array.replicate]) ?_
  simp only [Bool.false_eq_true, if_false]
  refine wpS_of_wp (wp_skip ?_)
  cases c₀
  simp_all [bodyPostS, results, Try.results94]

set_option maxRecDepth 100000 in
theorem face_ok (k : Nat) (caps : Array Value) (c : Int) (l : List Nat) (w : World) (hE : ∀ w : World, (callFunc k caps).run Try.prog w = .ok (.enter k caps) w)
    (hC : Calls Try.prog k caps (w.alloc (.cells #[.int .i64 0, .slice none 0 0] 27)) fun e w' => ∃ v, e = .returned (.agg #[.int .i64 c, v]) ∧ Owx w' (w.heap.size + 1) v l ∧ Below (w.heap.size + 1) (w.alloc (.cells #[.int .i64 0, .slice none 0 0] 27)) w') :
    Calls Try.prog 47 #[.func (.func k) #[] caps] w fun e w' => ∃ v, e = .returned (.agg #[.int .i64 c, v]) ∧ Owx w' w.heap.size v l ∧ Below w.heap.size w w' := by
  have hmf : ∀ (fn : Fn) (first cap : Array Value) (w : World), (Instr.makeFunc fn first cap).run Try.prog w = .ok (.func fn first cap) w := fun _ _ _ _ => rfl
  replace hC := hid hC
  go_enter_defers Try.func47, Try.ntmps47
  go_wp2_with fail
  refine hC.out.mono ?_
  rintro e w1 ⟨v, rfl, O, B⟩
  have V := var_keep B (heap_alloc_new w (.cells #[.int .i64 0, .slice none 0 0] 27)) (by omega)
  obtain ⟨f1, f2, f3, f4⟩ := var2_facts V
  have B1 := (below_alloc1 w (.cells #[.int .i64 0, .slice none 0 0] 27)).trans (B.mono (by omega))
  obtain ⟨q, cp, rfl, -, -, -⟩ := O.rd.parts
  have hset := hid (var2_set (x' := .int .i64 c) (y' := .slice q l.length cp) V)
  have hbel := hid (below_set2 (x := .int .i64 c) (y := .slice q l.length cp) B1 (Nat.le_refl _))
  have hown := hid ((O.set2 (g := w.heap.size) (x := .int .i64 c) (y := .slice q l.length cp) (by omega)).mono (base' := w.heap.size) (by omega))
  clear V B B1 O hC
  go_wp2
  refine leaves_cons (f := 94) (args := #[.pointer (some ⟨w.heap.size, 0, none⟩)]) (by simp) (by simp [go_sem]) ?_
  refine (catch_idle _ _).mono ?_
  rintro e u' w'' ⟨rfl, rfl, rfl⟩
  exact ⟨.agg #[.int .i64 c, .slice q l.length cp], results_cell_row rfl _ _ w.heap.size 27 _ _ _ rfl hset.out Try.underlying27 rfl (by kernel_rfl), _, rfl, hown.out, hbel.out⟩

set_option maxRecDepth 100000 in
theorem face_no (k : Nat) (caps : Array Value) (u : TypeId) (pv : Value) (w : World) (hE : ∀ w : World, (callFunc k caps).run Try.prog w = .ok (.enter k caps) w)
    (hC : Calls Try.prog k caps (w.alloc (.cells #[.int .i64 0, .slice none 0 0] 27)) fun e w' => e = .panicked [{ v := .iface u pv, recovered := false }] ∧ Below (w.heap.size + 1) (w.alloc (.cells #[.int .i64 0, .slice none 0 0] 27)) w') :
    Calls Try.prog 47 #[.func (.func k) #[] caps] w fun e w' => e = .returned (.agg #[.int .i64 2, .slice none 0 0]) ∧ Below w.heap.size w w' := by
  have hmf : ∀ (fn : Fn) (first cap : Array Value) (w : World), (Instr.makeFunc fn first cap).run Try.prog w = .ok (.func fn first cap) w := fun _ _ _ _ => rfl
  replace hC := hid hC
  go_enter_defers Try.func47, Try.ntmps47
  go_wp2_with fail
  refine hC.out.mono ?_
  rintro e w1 ⟨rfl, B⟩
  have V := var_keep B (heap_alloc_new w (.cells #[.int .i64 0, .slice none 0 0] 27)) (by omega)
  have B1 := (below_alloc1 w (.cells #[.int .i64 0, .slice none 0 0] 27)).trans (B.mono (by omega))
  have hset := hid (var2_set (x' := .int .i64 2) (y' := .slice none 0 0) V)
  have hbel := hid (below_set2 (x := .int .i64 2) (y := .slice none 0 0) B1 (Nat.le_refl _))
  refine leaves_cons (f := 94) (args := #[.pointer (some ⟨w.heap.size, 0, none⟩)]) (by simp) (by simp [go_sem]) ?_
  refine (catch_panic w.heap.size u pv _ _ _ V).mono ?_
  rintro e u' w'' ⟨rfl, rfl, rfl⟩
  exact ⟨.agg #[.int .i64 2, .slice none 0 0], results_cell_row rfl _ _ w.heap.size 27 _ _ _ rfl hset.out Try.underlying27 rfl (by kernel_rfl), rfl, hbel.out⟩
end Go.Proofs.Ytcmafbgfdddnnab.W

namespace Go.Proofs.Ytcmafbgfdddnnab.W
open Go.ChangeShapes Go.WideShapes Go.ChangeAt Go.RowKit
open Go.Proofs.Ytcmafbgfdddnnab.M

theorem run_enterStreamXor (w : World) (a : Array Value) : (callFunc 48 a).run Try.prog w = .ok (.enter 48 a) w := by
  exact run_into Try.func48 (by kernel_rfl) rfl a w

set_option maxRecDepth 100000 in
theorem faceStreamXor_ok (c : Int) (l : List Nat) (l0 l1 l2 : List Nat) (v0 v1 v2 : Value) (w : World) (h0 : Rd w v0 l0) (h1 : Rd w v1 l1) (h2 : Rd w v2 l2)
    (HC : ∀ (w : World) (g0 g1 g2 : Nat) (v0 v1 v2 : Value), Bx w g0 v0 → Bx w g1 v1 → Bx w g2 v2 → Rd w v0 l0 → Rd w v1 l1 → Rd w v2 l2 → Calls Try.prog 48 #[.pointer (some ⟨g1, 0, none⟩), .pointer (some ⟨g0, 0, none⟩), .pointer (some ⟨g2, 0, none⟩)] w fun e w' => ∃ r, e = .returned (.agg #[.int .i64 c, r]) ∧ Owx w' w.heap.size r l ∧ Below w.heap.size w w') :
    Calls Try.prog 9 #[v0, v1, v2] w fun e w' => ∃ r, e = .returned (.agg #[.int .i64 c, r]) ∧ Owx w' w.heap.size r l ∧ Below w.heap.size w w' := by
  obtain ⟨p0, cap0, rfl, -, -, -⟩ := h0.parts
  obtain ⟨p1, cap1, rfl, -, -, -⟩ := h1.parts
  obtain ⟨p2, cap2, rfl, -, -, -⟩ := h2.parts
  have hmf : ∀ (fn : Fn) (first cap : Array Value) (w : World), (Instr.makeFunc fn first cap).run Try.prog w = .ok (.func fn first cap) w := fun _ _ _ _ => rfl
  have BF : Below w.heap.size w (((((w.alloc (.cells #[(.slice p0 l0.length cap0)] 22)).alloc (.cells #[(.slice p1 l1.length cap1)] 22)).alloc (.cells #[(.slice p2 l2.length cap2)] 22)).alloc (.cells #[.int .i64 0, .slice none 0 0] 27)).alloc (.cells #[.int .i64 0, .slice none 0 0] 27)) := by repeat (first | exact Below.refl _ _ | refine Below.alloc ?_ (by simp; try omega) _)
  have X0 : Bx (w.alloc (.cells #[(.slice p0 l0.length cap0)] 22)) (w.heap.size) (.slice p0 l0.length cap0) := by
    have q := heap_alloc_new w (.cells #[(.slice p0 l0.length cap0)] 22)
    unfold Bx
    rw [cell_of_row _ _ 0 _ _ _ q]
    rfl
  have Y0 := hid (show Bx (((((w.alloc (.cells #[(.slice p0 l0.length cap0)] 22)).alloc (.cells #[(.slice p1 l1.length cap1)] 22)).alloc (.cells #[(.slice p2 l2.length cap2)] 22)).alloc (.cells #[.int .i64 0, .slice none 0 0] 27)).alloc (.cells #[.int .i64 0, .slice none 0 0] 27)) (w.heap.size) (.slice p0 l0.length cap0) from ((((X0.below (below_alloc1 _ _)).below (below_alloc1 _ _)).below (below_alloc1 _ _)).below (below_alloc1 _ _)))
  have X1 : Bx ((w.alloc (.cells #[(.slice p0 l0.length cap0)] 22)).alloc (.cells #[(.slice p1 l1.length cap1)] 22)) (w.heap.size + 1) (.slice p1 l1.length cap1) := by
    have q := heap_alloc_new (w.alloc (.cells #[(.slice p0 l0.length cap0)] 22)) (.cells #[(.slice p1 l1.length cap1)] 22)
    simp only [World.size_alloc] at q
    unfold Bx
    rw [cell_of_row _ _ 0 _ _ _ q]
    rfl
  have Y1 := hid (show Bx (((((w.alloc (.cells #[(.slice p0 l0.length cap0)] 22)).alloc (.cells #[(.slice p1 l1.length cap1)] 22)).alloc (.cells #[(.slice p2 l2.length cap2)] 22)).alloc (.cells #[.int .i64 0, .slice none 0 0] 27)).alloc (.cells #[.int .i64 0, .slice none 0 0] 27)) (w.heap.size + 1) (.slice p1 l1.length cap1) from (((X1.below (below_alloc1 _ _)).below (below_alloc1 _ _)).below (below_alloc1 _ _)))
  have X2 : Bx (((w.alloc (.cells #[(.slice p0 l0.length cap0)] 22)).alloc (.cells #[(.slice p1 l1.length cap1)] 22)).alloc (.cells #[(.slice p2 l2.length cap2)] 22)) (w.heap.size + 1 + 1) (.slice p2 l2.length cap2) := by
    have q := heap_alloc_new ((w.alloc (.cells #[(.slice p0 l0.length cap0)] 22)).alloc (.cells #[(.slice p1 l1.length cap1)] 22)) (.cells #[(.slice p2 l2.length cap2)] 22)
    simp only [World.size_alloc] at q
    unfold Bx
    rw [cell_of_row _ _ 0 _ _ _ q]
    rfl
  have Y2 := hid (show Bx (((((w.alloc (.cells #[(.slice p0 l0.length cap0)] 22)).alloc (.cells #[(.slice p1 l1.length cap1)] 22)).alloc (.cells #[(.slice p2 l2.length cap2)] 22)).alloc (.cells #[.int .i64 0, .slice none 0 0] 27)).alloc (.cells #[.int .i64 0, .slice none 0 0] 27)) (w.heap.size + 1 + 1) (.slice p2 l2.length cap2) from ((X2.below (below_alloc1 _ _)).below (below_alloc1 _ _)))
  have VB := heap_alloc_new (((w.alloc (.cells #[(.slice p0 l0.length cap0)] 22)).alloc (.cells #[(.slice p1 l1.length cap1)] 22)).alloc (.cells #[(.slice p2 l2.length cap2)] 22)) (.cells #[.int .i64 0, .slice none 0 0] 27)
  simp only [World.size_alloc] at VB
  have BB : Below w.heap.size w ((((w.alloc (.cells #[(.slice p0 l0.length cap0)] 22)).alloc (.cells #[(.slice p1 l1.length cap1)] 22)).alloc (.cells #[(.slice p2 l2.length cap2)] 22)).alloc (.cells #[.int .i64 0, .slice none 0 0] 27)) := by repeat (first | exact Below.refl _ _ | refine Below.alloc ?_ (by simp; try omega) _)
  have C := HC (((((w.alloc (.cells #[(.slice p0 l0.length cap0)] 22)).alloc (.cells #[(.slice p1 l1.length cap1)] 22)).alloc (.cells #[(.slice p2 l2.length cap2)] 22)).alloc (.cells #[.int .i64 0, .slice none 0 0] 27)).alloc (.cells #[.int .i64 0, .slice none 0 0] 27)) (w.heap.size) (w.heap.size + 1) (w.heap.size + 1 + 1) _ _ _ Y0.out Y1.out Y2.out (h0.below BF) (h1.below BF) (h2.below BF)
  have FC := hid (face_ok 48 #[.pointer (some ⟨w.heap.size + 1, 0, none⟩), .pointer (some ⟨w.heap.size, 0, none⟩), .pointer (some ⟨w.heap.size + 1 + 1, 0, none⟩)] c l ((((w.alloc (.cells #[(.slice p0 l0.length cap0)] 22)).alloc (.cells #[(.slice p1 l1.length cap1)] 22)).alloc (.cells #[(.slice p2 l2.length cap2)] 22)).alloc (.cells #[.int .i64 0, .slice none 0 0] 27)) (fun w => run_enterStreamXor w _) (by
    have q := C
    simp only [World.size_alloc] at q ⊢
    exact q))
  have VH := hid VB
  have BH := hid BB
  clear C HC VB BB BF X0 X1 X2 Y0 Y1 Y2 h0 h1 h2
  go_enter Try.func9, Try.ntmps9
  go_wp2_with fail
  refine FC.out.mono ?_
  rintro e w1 ⟨r, rfl, O, hB⟩
  obtain ⟨q, cp, rfl, -, -, -⟩ := O.rd.parts
  have V := var_below hB VH.out
  have hz := var_lt VH.out
  have B1 := BH.out.trans (hB.mono BH.out.size)
  obtain ⟨f1, f2, f3, f4⟩ := var2_facts V
  have hset := hid (var2_set (x' := .int .i64 c) (y' := .slice q l.length cp) V)
  have hbel := hid (below_set2 (x := .int .i64 c) (y := .slice q l.length cp) B1 (show w.heap.size ≤ w.heap.size + 1 + 1 + 1 by omega))
  have hown := hid ((O.set2 (g := w.heap.size + 1 + 1 + 1) (x := .int .i64 c) (y := .slice q l.length cp) hz).mono (base' := w.heap.size) (BH.out.size))
  clear V B1 hB FC VH BH O
  go_wp2
  exact bodyPost_ret (v := .agg #[.int .i64 c, .slice q l.length cp]) (results_cell_row rfl _ _ (w.heap.size + 1 + 1 + 1) 27 _ _ _ rfl hset.out Try.underlying27 rfl (by kernel_rfl)) rfl ⟨_, rfl, hown.out, hbel.out⟩

set_option maxRecDepth 100000 in
theorem faceStreamXor_no (u : TypeId) (pv : Value) (l0 l1 l2 : List Nat) (v0 v1 v2 : Value) (w : World) (h0 : Rd w v0 l0) (h1 : Rd w v1 l1) (h2 : Rd w v2 l2)
    (HC : ∀ (w : World) (g0 g1 g2 : Nat) (v0 v1 v2 : Value), Bx w g0 v0 → Bx w g1 v1 → Bx w g2 v2 → Rd w v0 l0 → Rd w v1 l1 → Rd w v2 l2 → Calls Try.prog 48 #[.pointer (some ⟨g1, 0, none⟩), .pointer (some ⟨g0, 0, none⟩), .pointer (some ⟨g2, 0, none⟩)] w fun e w' => e = .panicked [{ v := .iface u pv, recovered := false }] ∧ Below w.heap.size w w') :
    Calls Try.prog 9 #[v0, v1, v2] w fun e w' => e = .returned (.agg #[.int .i64 2, .slice none 0 0]) ∧ Below w.heap.size w w' := by
  obtain ⟨p0, cap0, rfl, -, -, -⟩ := h0.parts
  obtain ⟨p1, cap1, rfl, -, -, -⟩ := h1.parts
  obtain ⟨p2, cap2, rfl, -, -, -⟩ := h2.parts
  have hmf : ∀ (fn : Fn) (first cap : Array Value) (w : World), (Instr.makeFunc fn first cap).run Try.prog w = .ok (.func fn first cap) w := fun _ _ _ _ => rfl
  have BF : Below w.heap.size w (((((w.alloc (.cells #[(.slice p0 l0.length cap0)] 22)).alloc (.cells #[(.slice p1 l1.length cap1)] 22)).alloc (.cells #[(.slice p2 l2.length cap2)] 22)).alloc (.cells #[.int .i64 0, .slice none 0 0] 27)).alloc (.cells #[.int .i64 0, .slice none 0 0] 27)) := by repeat (first | exact Below.refl _ _ | refine Below.alloc ?_ (by simp; try omega) _)
  have X0 : Bx (w.alloc (.cells #[(.slice p0 l0.length cap0)] 22)) (w.heap.size) (.slice p0 l0.length cap0) := by
    have q := heap_alloc_new w (.cells #[(.slice p0 l0.length cap0)] 22)
    unfold Bx
    rw [cell_of_row _ _ 0 _ _ _ q]
    rfl
  have Y0 := hid (show Bx (((((w.alloc (.cells #[(.slice p0 l0.length cap0)] 22)).alloc (.cells #[(.slice p1 l1.length cap1)] 22)).alloc (.cells #[(.slice p2 l2.length cap2)] 22)).alloc (.cells #[.int .i64 0, .slice none 0 0] 27)).alloc (.cells #[.int .i64 0, .slice none 0 0] 27)) (w.heap.size) (.slice p0 l0.length cap0) from ((((X0.below (below_alloc1 _ _)).below (below_alloc1 _ _)).below (below_alloc1 _ _)).below (below_alloc1 _ _)))
  have X1 : Bx ((w.alloc (.cells #[(.slice p0 l0.length cap0)] 22)).alloc (.cells #[(.slice p1 l1.length cap1)] 22)) (w.heap.size + 1) (.slice p1 l1.length cap1) := by
    have q := heap_alloc_new (w.alloc (.cells #[(.slice p0 l0.length cap0)] 22)) (.cells #[(.slice p1 l1.length cap1)] 22)
    simp only [World.size_alloc] at q
    unfold Bx
    rw [cell_of_row _ _ 0 _ _ _ q]
    rfl
  have Y1 := hid (show Bx (((((w.alloc (.cells #[(.slice p0 l0.length cap0)] 22)).alloc (.cells #[(.slice p1 l1.length cap1)] 22)).alloc (.cells #[(.slice p2 l2.length cap2)] 22)).alloc (.cells #[.int .i64 0, .slice none 0 0] 27)).alloc (.cells #[.int .i64 0, .slice none 0 0] 27)) (w.heap.size + 1) (.slice p1 l1.length cap1) from (((X1.below (below_alloc1 _ _)).below (below_alloc1 _ _)).below (below_alloc1 _ _)))
  have X2 : Bx (((w.alloc (.cells #[(.slice p0 l0.length cap0)] 22)).alloc (.cells #[(.slice p1 l1.length cap1)] 22)).alloc (.cells #[(.slice p2 l2.length cap2)] 22)) (w.heap.size + 1 + 1) (.slice p2 l2.length cap2) := by
    have q := heap_alloc_new ((w.alloc (.cells #[(.slice p0 l0.length cap0)] 22)).alloc (.cells #[(.slice p1 l1.length cap1)] 22)) (.cells #[(.slice p2 l2.length cap2)] 22)
    simp only [World.size_alloc] at q
    unfold Bx
    rw [cell_of_row _ _ 0 _ _ _ q]
    rfl
  have Y2 := hid (show Bx (((((w.alloc (.cells #[(.slice p0 l0.length cap0)] 22)).alloc (.cells #[(.slice p1 l1.length cap1)] 22)).alloc (.cells #[(.slice p2 l2.length cap2)] 22)).alloc (.cells #[.int .i64 0, .slice none 0 0] 27)).alloc (.cells #[.int .i64 0, .slice none 0 0] 27)) (w.heap.size + 1 + 1) (.slice p2 l2.length cap2) from ((X2.below (below_alloc1 _ _)).below (below_alloc1 _ _)))
  have VB := heap_alloc_new (((w.alloc (.cells #[(.slice p0 l0.length cap0)] 22)).alloc (.cells #[(.slice p1 l1.length cap1)] 22)).alloc (.cells #[(.slice p2 l2.length cap2)] 22)) (.cells #[.int .i64 0, .slice none 0 0] 27)
  simp only [World.size_alloc] at VB
  have BB : Below w.heap.size w ((((w.alloc (.cells #[(.slice p0 l0.length cap0)] 22)).alloc (.cells #[(.slice p1 l1.length cap1)] 22)).alloc (.cells #[(.slice p2 l2.length cap2)] 22)).alloc (.cells #[.int .i64 0, .slice none 0 0] 27)) := by repeat (first | exact Below.refl _ _ | refine Below.alloc ?_ (by simp; try omega) _)
  have C := HC (((((w.alloc (.cells #[(.slice p0 l0.length cap0)] 22)).alloc (.cells #[(.slice p1 l1.length cap1)] 22)).alloc (.cells #[(.slice p2 l2.length cap2)] 22)).alloc (.cells #[.int .i64 0, .slice none 0 0] 27)).alloc (.cells #[.int .i64 0, .slice none 0 0] 27)) (w.heap.size) (w.heap.size + 1) (w.heap.size + 1 + 1) _ _ _ Y0.out Y1.out Y2.out (h0.below BF) (h1.below BF) (h2.below BF)
  have FC := hid (face_no 48 #[.pointer (some ⟨w.heap.size + 1, 0, none⟩), .pointer (some ⟨w.heap.size, 0, none⟩), .pointer (some ⟨w.heap.size + 1 + 1, 0, none⟩)] u pv ((((w.alloc (.cells #[(.slice p0 l0.length cap0)] 22)).alloc (.cells #[(.slice p1 l1.length cap1)] 22)).alloc (.cells #[(.slice p2 l2.length cap2)] 22)).alloc (.cells #[.int .i64 0, .slice none 0 0] 27)) (fun w => run_enterStreamXor w _) (by
    have q := C
    simp only [World.size_alloc] at q ⊢
    exact q))
  have VH := hid VB
  have BH := hid BB
  clear C HC VB BB BF X0 X1 X2 Y0 Y1 Y2 h0 h1 h2
  go_enter Try.func9, Try.ntmps9
  go_wp2_with fail
  refine FC.out.mono ?_
  rintro e w1 ⟨rfl, hB⟩
  have V := var_below hB VH.out
  have hz := var_lt VH.out
  have B1 := BH.out.trans (hB.mono BH.out.size)
  obtain ⟨f1, f2, f3, f4⟩ := var2_facts V
  have hset := hid (var2_set (x' := .int .i64 2) (y' := .slice none 0 0) V)
  have hbel := hid (below_set2 (x := .int .i64 2) (y := .slice none 0 0) B1 (show w.heap.size ≤ w.heap.size + 1 + 1 + 1 by omega))
  clear V B1 hB FC VH BH
  go_wp2
  exact bodyPost_ret (v := .agg #[.int .i64 2, .slice none 0 0]) (results_cell_row rfl _ _ (w.heap.size + 1 + 1 + 1) 27 _ _ _ rfl hset.out Try.underlying27 rfl (by kernel_rfl)) rfl ⟨rfl, hbel.out⟩
end Go.Proofs.Ytcmafbgfdddnnab.W

namespace Go.Proofs.Ytcmafbgfdddnnab.W
open Go.ChangeShapes Go.WideShapes Go.ChangeAt Go.RowKit
open Go.Proofs.Ytcmafbgfdddnnab.M

theorem isx (vk vb vd : Value) (k b d : List Nat) (w : World) (hk : Rd w vk k) (hb : Rd w vb b) (hd : Rd w vd d) (yk : Byt k) (yb : Byt b) (yd : Byt d) :
    Calls Try.prog 9 #[vk, vb, vd] w fun e w' => ∃ r, e = .returned (.agg #[.int .i64 (sxC k b d), r]) ∧ Owx w' w.heap.size r (sxB k b d) ∧ Below w.heap.size w w' := by
  by_cases h : sxOk k b d
  · rw [show sxC k b d = 0 by rw [sxC, if_pos h], show sxB k b d = strm (kf k) b d by rw [sxB, if_pos h]]
    exact faceStreamXor_ok 0 (strm (kf k) b d) k b d vk vb vd w hk hb hd (fun w g0 g1 g2 v0 v1 v2 x0 x1 x2 r0 r1 r2 => sx1_ok g0 g1 g2 v0 v1 v2 k b d w x0 x1 x2 r0 r1 r2 yk yb yd h.2.1 h.1 h.2.2)
  · rw [show sxC k b d = 2 by rw [sxC, if_neg h], show sxB k b d = [] by rw [sxB, if_neg h]]
    by_cases n2 : b.length = 16
    · by_cases n1 : k.length = 16
      · exact faceStreamXor_ok 2 [] k b d vk vb vd w hk hb hd (fun w g0 g1 g2 v0 v1 v2 x0 x1 x2 r0 r1 r2 => (sx1_many g0 g1 g2 v0 v1 v2 k b d w x0 x1 x2 r0 r1 r2 n2 n1 (by unfold sxOk at h; omega)).mono fun e w' ⟨he, hb⟩ => ⟨_, he, Owx.nil _ _, hb⟩)
      · exact faceStreamXor_ok 2 [] k b d vk vb vd w hk hb hd (fun w g0 g1 g2 v0 v1 v2 x0 x1 x2 r0 r1 r2 => (sx1_key g0 g1 g2 v0 v1 v2 k b d w x0 x1 x2 r0 r1 r2 n2 n1).mono fun e w' ⟨he, hb⟩ => ⟨_, he, Owx.nil _ _, hb⟩)
    · exact (faceStreamXor_no _ _ k b d vk vb vd w hk hb hd (fun w g0 g1 g2 v0 v1 v2 x0 x1 x2 r0 r1 r2 => sx1_no g0 g1 g2 v0 v1 v2 k b d w x0 x1 x2 r0 r1 r2 n2)).mono fun e w' ⟨he, hb⟩ => ⟨_, he, Owx.nil _ _, hb⟩
end Go.Proofs.Ytcmafbgfdddnnab.W

namespace Go.Proofs.Ytcmafbgfdddnnab.M
open Go.RowKit
def cuC (l : List Nat) : Int := if l.length = 16 then 0 else 2
def cuB (l : List Nat) : List Nat := if l.length = 16 then cu l else []
theorem cuB_len (l : List Nat) : (cuB l).length ≤ 16 := by
  unfold cuB
  split
  · rename_i h
    rw [cu_len l h]; omega
  · simp
end Go.Proofs.Ytcmafbgfdddnnab.M

namespace Go.Proofs.Ytcmafbgfdddnnab.W
open Go.ChangeShapes Go.WideShapes Go.ChangeAt Go.RowKit
open Go.Proofs.Ytcmafbgfdddnnab.M

set_option maxRecDepth 100000 in
theorem scu_ok (v : Value) (l : List Nat) (w : World) (h : Rd w v l) (y : Byt l) (nl : l.length = 16) :
    Calls Try.prog 13 #[v] w fun e w' => ∃ r, e = .returned (.agg #[.int .i64 0, r]) ∧ Owx w' w.heap.size r (cu l) ∧ Below w.heap.size w w' := by
  obtain ⟨b1, o1, cap1, rfl, -, -⟩ := h.spot (by omega)
  have N1 := hid nl
  rw [nl] at h ⊢
  have A := hid (h.below (below_alloc1 w (.cells #[.int .i64 0, .slice none 0 0] 27)))
  clear h nl
  go_enter Try.func13, Try.ntmps13
  go_wp2_with fail
  refine (l3count _ l _ A.out y N1.out).mono ?_
  rintro e w1 ⟨v, rfl, O, B1⟩
  simp only [World.size_alloc] at O
  obtain ⟨q, c, rfl, -, -, -⟩ := O.rd.parts
  have hv := var_below B1 (heap_alloc_new w (.cells #[.int .i64 0, .slice none 0 0] 27))
  have hB3 := (below_alloc1 w (.cells #[.int .i64 0, .slice none 0 0] 27)).trans (B1.mono (by simp))
  obtain ⟨f1, f2, f3, f4⟩ := var2_facts hv
  have hset := hid (var2_set (x' := .int .i64 0) (y' := .slice q (cu l).length c) hv)
  have hbel := hid (below_set2 (x := .int .i64 0) (y := .slice q (cu l).length c) hB3 (Nat.le_refl _))
  have hown := hid ((O.set2 (g := w.heap.size) (x := .int .i64 0) (y := .slice q (cu l).length c) (by omega)).mono (base' := w.heap.size) (by omega)).x
  clear hv O B1 hB3 A
  go_wp2
  exact bodyPost_ret (v := .agg #[.int .i64 0, .slice q (cu l).length c]) (results_cell_row rfl _ _ w.heap.size 27 _ _ _ rfl hset.out Try.underlying27 rfl (by kernel_rfl)) rfl ⟨_, rfl, hown.out, hbel.out⟩

set_option maxRecDepth 100000 in
theorem scu_no (v : Value) (l : List Nat) (w : World) (h : Rd w v l) (nl : l.length ≠ 16) :
    Calls Try.prog 13 #[v] w fun e w' => e = .returned (.agg #[.int .i64 2, .slice none 0 0]) ∧ Below w.heap.size w w' := by
  obtain ⟨p1, cap1, rfl, -, -, -⟩ := h.parts
  clear h
  have n1 : ((l.length : Int) != 16) = true := by rw [bne_iff_ne]; omega
  clear nl
  go_enter Try.func13, Try.ntmps13
  go_wp2
  exact bodyPost_ret (v := .agg #[.int .i64 2, .slice none 0 0]) (by simp [results, Try.results13, go_sem]) rfl ⟨rfl, below_alloc1 w _⟩

theorem scu (v : Value) (l : List Nat) (w : World) (h : Rd w v l) (y : Byt l) :
    Calls Try.prog 13 #[v] w fun e w' => ∃ r, e = .returned (.agg #[.int .i64 (cuC l), r]) ∧ Owx w' w.heap.size r (cuB l) ∧ Below w.heap.size w w' := by
  by_cases n : l.length = 16
  · rw [show cuC l = 0 by rw [cuC, if_pos n], show cuB l = cu l by rw [cuB, if_pos n]]
    exact scu_ok v l w h y n
  · rw [show cuC l = 2 by rw [cuC, if_neg n], show cuB l = [] by rw [cuB, if_neg n]]
    exact (scu_no v l w h n).mono fun e w' ⟨he, hb⟩ => ⟨_, he, Owx.nil _ _, hb⟩
end Go.Proofs.Ytcmafbgfdddnnab.W

namespace Go.Proofs.Ytcmafbgfdddnnab.W
open Go.ChangeShapes Go.WideShapes Go.ChangeAt Go.RowKit
open Go.Proofs.Ytcmafbgfdddnnab.M

set_option maxRecDepth 100000 in
theorem tellb (l : List Nat) (w : World) (hl : l.length = 16) :
    Calls Try.prog 57 #[.agg (arr l)] w fun e w' => ∃ v, e = .returned (.agg #[.int .i64 0, v]) ∧ Owx w' w.heap.size v l ∧ Below w.heap.size w w' := by
  go_enter Try.func57, Try.ntmps57
  go_wp2
  have A0 := Ar.new w 68 l
  have O := Owx.ofAr (base := w.heap.size) (n := 16) (A0.alloc (.cells #[.int .i64 0, .slice (some ⟨w.heap.size, 0, none⟩) 16 16] 27)) hl (Nat.le_refl _) (by unfold maxLen; omega)
  exact bodyPost_ret (v := .agg #[.int .i64 0, .slice (some ⟨w.heap.size, 0, none⟩) 16 16]) (by simp [results, Try.results57, go_sem]) rfl ⟨_, rfl, O, below_alloc2 w _ _⟩
end Go.Proofs.Ytcmafbgfdddnnab.W

namespace Go.Proofs.Ytcmafbgfdddnnab.W
open Go.ChangeShapes Go.WideShapes Go.ChangeAt Go.RowKit
open Go.Proofs.Ytcmafbgfdddnnab.M

theorem run_enterCountUp (w : World) (a : Array Value) : (callFunc 56 a).run Try.prog w = .ok (.enter 56 a) w := by
  exact run_into Try.func56 (by kernel_rfl) rfl a w

set_option maxRecDepth 100000 in
theorem faceCountUp_ok (c : Int) (l : List Nat) (l0 : List Nat) (v0 : Value) (w : World) (h0 : Rd w v0 l0)
    (HC : ∀ (w : World) (g0 : Nat) (v0 : Value), Bx w g0 v0 → Rd w v0 l0 → Calls Try.prog 56 #[.pointer (some ⟨g0, 0, none⟩)] w fun e w' => ∃ r, e = .returned (.agg #[.int .i64 c, r]) ∧ Owx w' w.heap.size r l ∧ Below w.heap.size w w') :
    Calls Try.prog 11 #[v0] w fun e w' => ∃ r, e = .returned (.agg #[.int .i64 c, r]) ∧ Owx w' w.heap.size r l ∧ Below w.heap.size w w' := by
  obtain ⟨p0, cap0, rfl, -, -, -⟩ := h0.parts
  have hmf : ∀ (fn : Fn) (first cap : Array Value) (w : World), (Instr.makeFunc fn first cap).run Try.prog w = .ok (.func fn first cap) w := fun _ _ _ _ => rfl
  have BF : Below w.heap.size w (((w.alloc (.cells #[(.slice p0 l0.length cap0)] 22)).alloc (.cells #[.int .i64 0, .slice none 0 0] 27)).alloc (.cells #[.int .i64 0, .slice none 0 0] 27)) := by repeat (first | exact Below.refl _ _ | refine Below.alloc ?_ (by simp; try omega) _)
  have X0 : Bx (w.alloc (.cells #[(.slice p0 l0.length cap0)] 22)) (w.heap.size) (.slice p0 l0.length cap0) := by
    have q := heap_alloc_new w (.cells #[(.slice p0 l0.length cap0)] 22)
    unfold Bx
    rw [cell_of_row _ _ 0 _ _ _ q]
    rfl
  have Y0 := hid (show Bx (((w.alloc (.cells #[(.slice p0 l0.length cap0)] 22)).alloc (.cells #[.int .i64 0, .slice none 0 0] 27)).alloc (.cells #[.int .i64 0, .slice none 0 0] 27)) (w.heap.size) (.slice p0 l0.length cap0) from ((X0.below (below_alloc1 _ _)).below (below_alloc1 _ _)))
  have VB := heap_alloc_new (w.alloc (.cells #[(.slice p0 l0.length cap0)] 22)) (.cells #[.int .i64 0, .slice none 0 0] 27)
  simp only [World.size_alloc] at VB
  have BB : Below w.heap.size w ((w.alloc (.cells #[(.slice p0 l0.length cap0)] 22)).alloc (.cells #[.int .i64 0, .slice none 0 0] 27)) := by repeat (first | exact Below.refl _ _ | refine Below.alloc ?_ (by simp; try omega) _)
  have C := HC (((w.alloc (.cells #[(.slice p0 l0.length cap0)] 22)).alloc (.cells #[.int .i64 0, .slice none 0 0] 27)).alloc (.cells #[.int .i64 0, .slice none 0 0] 27)) (w.heap.size) _ Y0.out (h0.below BF)
  have FC := hid (face_ok 56 #[.pointer (some ⟨w.heap.size, 0, none⟩)] c l ((w.alloc (.cells #[(.slice p0 l0.length cap0)] 22)).alloc (.cells #[.int .i64 0, .slice none 0 0] 27)) (fun w => run_enterCountUp w _) (by
    have q := C
    simp only [World.size_alloc] at q ⊢
    exact q))
  have VH := hid VB
  have BH := hid BB
  clear C HC VB BB BF X0 Y0 h0
  go_enter Try.func11, Try.ntmps11
  go_wp2_with fail
  refine FC.out.mono ?_
  rintro e w1 ⟨r, rfl, O, hB⟩
  obtain ⟨q, cp, rfl, -, -, -⟩ := O.rd.parts
  have V := var_below hB VH.out
  have hz := var_lt VH.out
  have B1 := BH.out.trans (hB.mono BH.out.size)
  obtain ⟨f1, f2, f3, f4⟩ := var2_facts V
  have hset := hid (var2_set (x' := .int .i64 c) (y' := .slice q l.length cp) V)
  have hbel := hid (below_set2 (x := .int .i64 c) (y := .slice q l.length cp) B1 (show w.heap.size ≤ w.heap.size + 1 by omega))
  have hown := hid ((O.set2 (g := w.heap.size + 1) (x := .int .i64 c) (y := .slice q l.length cp) hz).mono (base' := w.heap.size) (BH.out.size))
  clear V B1 hB FC VH BH O
  go_wp2
  exact bodyPost_ret (v := .agg #[.int .i64 c, .slice q l.length cp]) (results_cell_row rfl _ _ (w.heap.size + 1) 27 _ _ _ rfl hset.out Try.underlying27 rfl (by kernel_rfl)) rfl ⟨_, rfl, hown.out, hbel.out⟩

set_option maxRecDepth 100000 in
theorem faceCountUp_no (u : TypeId) (pv : Value) (l0 : List Nat) (v0 : Value) (w : World) (h0 : Rd w v0 l0)
    (HC : ∀ (w : World) (g0 : Nat) (v0 : Value), Bx w g0 v0 → Rd w v0 l0 → Calls Try.prog 56 #[.pointer (some ⟨g0, 0, none⟩)] w fun e w' => e = .panicked [{ v := .iface u pv, recovered := false }] ∧ Below w.heap.size w w') :
    Calls Try.prog 11 #[v0] w fun e w' => e = .returned (.agg #[.int .i64 2, .slice none 0 0]) ∧ Below w.heap.size w w' := by
  obtain ⟨p0, cap0, rfl, -, -, -⟩ := h0.parts
  have hmf : ∀ (fn : Fn) (first cap : Array Value) (w : World), (Instr.makeFunc fn first cap).run Try.prog w = .ok (.func fn first cap) w := fun _ _ _ _ => rfl
  have BF : Below w.heap.size w (((w.alloc (.cells #[(.slice p0 l0.length cap0)] 22)).alloc (.cells #[.int .i64 0, .slice none 0 0] 27)).alloc (.cells #[.int .i64 0, .slice none 0 0] 27)) := by repeat (first | exact Below.refl _ _ | refine Below.alloc ?_ (by simp; try omega) _)
  have X0 : Bx (w.alloc (.cells #[(.slice p0 l0.length cap0)] 22)) (w.heap.size) (.slice p0 l0.length cap0) := by
    have q := heap_alloc_new w (.cells #[(.slice p0 l0.length cap0)] 22)
    unfold Bx
    rw [cell_of_row _ _ 0 _ _ _ q]
    rfl
  have Y0 := hid (show Bx (((w.alloc (.cells #[(.slice p0 l0.length cap0)] 22)).alloc (.cells #[.int .i64 0, .slice none 0 0] 27)).alloc (.cells #[.int .i64 0, .slice none 0 0] 27)) (w.heap.size) (.slice p0 l0.length cap0) from ((X0.below (below_alloc1 _ _)).below (below_alloc1 _ _)))
  have VB := heap_alloc_new (w.alloc (.cells #[(.slice p0 l0.length cap0)] 22)) (.cells #[.int .i64 0, .slice none 0 0] 27)
  simp only [World.size_alloc] at VB
  have BB : Below w.heap.size w ((w.alloc (.cells #[(.slice p0 l0.length cap0)] 22)).alloc (.cells #[.int .i64 0, .slice none 0 0] 27)) := by repeat (first | exact Below.refl _ _ | refine Below.alloc ?_ (by simp; try omega) _)
  have C := HC (((w.alloc (.cells #[(.slice p0 l0.length cap0)] 22)).alloc (.cells #[.int .i64 0, .slice none 0 0] 27)).alloc (.cells #[.int .i64 0, .slice none 0 0] 27)) (w.heap.size) _ Y0.out (h0.below BF)
  have FC := hid (face_no 56 #[.pointer (some ⟨w.heap.size, 0, none⟩)] u pv ((w.alloc (.cells #[(.slice p0 l0.length cap0)] 22)).alloc (.cells #[.int .i64 0, .slice none 0 0] 27)) (fun w => run_enterCountUp w _) (by
    have q := C
    simp only [World.size_alloc] at q ⊢
    exact q))
  have VH := hid VB
  have BH := hid BB
  clear C HC VB BB BF X0 Y0 h0
  go_enter Try.func11, Try.ntmps11
  go_wp2_with fail
  refine FC.out.mono ?_
  rintro e w1 ⟨rfl, hB⟩
  have V := var_below hB VH.out
  have hz := var_lt VH.out
  have B1 := BH.out.trans (hB.mono BH.out.size)
  obtain ⟨f1, f2, f3, f4⟩ := var2_facts V
  have hset := hid (var2_set (x' := .int .i64 2) (y' := .slice none 0 0) V)
  have hbel := hid (below_set2 (x := .int .i64 2) (y := .slice none 0 0) B1 (show w.heap.size ≤ w.heap.size + 1 by omega))
  clear V B1 hB FC VH BH
  go_wp2
  exact bodyPost_ret (v := .agg #[.int .i64 2, .slice none 0 0]) (results_cell_row rfl _ _ (w.heap.size + 1) 27 _ _ _ rfl hset.out Try.underlying27 rfl (by kernel_rfl)) rfl ⟨rfl, hbel.out⟩
end Go.Proofs.Ytcmafbgfdddnnab.W

namespace Go.Proofs.Ytcmafbgfdddnnab.W
open Go.ChangeShapes Go.WideShapes Go.ChangeAt Go.RowKit
open Go.Proofs.Ytcmafbgfdddnnab.M

set_option maxRecDepth 100000 in
theorem cu1_no (ga : Nat) (va : Value) (l : List Nat) (w : World) (ca : Bx w ga va) (ha : Rd w va l) (nl : l.length ≠ 16) :
    Calls Try.prog 56 #[.pointer (some ⟨ga, 0, none⟩)] w fun e w' => e = .panicked [{ v := .iface 9 (.string { data := #[110, 111, 32, 98, 108, 111, 99, 107] }), recovered := false }] ∧ Below w.heap.size w w' := by
  obtain ⟨pa, capa, rfl, -, -, -⟩ := ha.parts
  have B0 := below_alloc1 w (.cells #[.int .i64 0, .slice none 0 0] 27)
  have CA : (w.alloc (.cells #[.int .i64 0, .slice none 0 0] 27)).cell? ⟨ga, 0, none⟩ = some _ := ca.below B0
  have HA := hid (ha.below B0)
  have NL := hid nl
  have BH := hid B0
  clear ca ha nl B0
  go_enter Try.func56, Try.ntmps56
  go_wp2_with fail
  refine (blkof_no _ l _ HA.out NL.out).mono ?_
  rintro e w1 ⟨rfl, hM⟩
  exact ⟨rfl, rfl, BH.out.trans (hM.mono BH.out.size)⟩

set_option maxRecDepth 100000 in
theorem cu1_ok (ga : Nat) (va : Value) (l : List Nat) (w : World) (ca : Bx w ga va) (ha : Rd w va l) (y : Byt l) (nl : l.length = 16) :
    Calls Try.prog 56 #[.pointer (some ⟨ga, 0, none⟩)] w fun e w' => ∃ r, e = .returned (.agg #[.int .i64 0, r]) ∧ Owx w' w.heap.size r (cu l) ∧ Below w.heap.size w w' := by
  obtain ⟨pa, capa, rfl, -, -, -⟩ := ha.parts
  have B0 := below_alloc1 w (.cells #[.int .i64 0, .slice none 0 0] 27)
  have V0 := heap_alloc_new w (.cells #[.int .i64 0, .slice none 0 0] 27)
  have CA : (w.alloc (.cells #[.int .i64 0, .slice none 0 0] 27)).cell? ⟨ga, 0, none⟩ = some _ := ca.below B0
  have HA := hid (ha.below B0)
  have NL := hid nl
  have BX := hid B0
  have VR := hid V0
  clear ca ha nl B0 V0
  go_enter Try.func56, Try.ntmps56
  go_wp2_with fail
  refine (blkof _ l _ HA.out NL.out).mono ?_
  rintro e w1 ⟨rfl, hM⟩
  replace VR := hid (var_below hM VR.out)
  replace BX := hid (BX.out.trans (hM.mono BX.out.size))
  clear hM CA HA
  go_wp2_with fail
  refine (counted l _ NL.out y).mono ?_
  rintro e w2 ⟨rfl, hM⟩
  replace VR := hid (var_below hM VR.out)
  replace BX := hid (BX.out.trans (hM.mono BX.out.size))
  clear hM
  go_wp2_with fail
  refine (tellb (cu l) _ (cu_len l NL.out)).mono ?_
  rintro e w5 ⟨r, rfl, O, hM⟩
  obtain ⟨q, c, rfl, -, -, -⟩ := O.rd.parts
  have hz5 := var_lt VR.out
  have V9 := var_below hM VR.out
  have B9 := BX.out.trans (hM.mono BX.out.size)
  obtain ⟨f1, f2, f3, f4⟩ := var2_facts V9
  have hset := hid (var2_set (x' := .int .i64 0) (y' := .slice q (cu l).length c) V9)
  have hbel := hid (below_set2 (x := .int .i64 0) (y := .slice q (cu l).length c) B9 (Nat.le_refl _))
  have hown := hid ((O.set2 (g := w.heap.size) (x := .int .i64 0) (y := .slice q (cu l).length c) hz5).mono (base' := w.heap.size) (BX.out.size))
  clear V9 B9 O hM
  go_wp2
  exact bodyPost_ret (v := .agg #[.int .i64 0, .slice q (cu l).length c]) (results_cell_row rfl _ _ w.heap.size 27 _ _ _ rfl hset.out Try.underlying27 rfl (by kernel_rfl)) rfl ⟨_, rfl, hown.out, hbel.out⟩

theorem icu (v : Value) (l : List Nat) (w : World) (h : Rd w v l) (y : Byt l) :
    Calls Try.prog 11 #[v] w fun e w' => ∃ r, e = .returned (.agg #[.int .i64 (cuC l), r]) ∧ Owx w' w.heap.size r (cuB l) ∧ Below w.heap.size w w' := by
  by_cases n : l.length = 16
  · rw [show cuC l = 0 by rw [cuC, if_pos n], show cuB l = cu l by rw [cuB, if_pos n]]
    exact faceCountUp_ok 0 (cu l) l v w h (fun w g0 v0 x0 r0 => cu1_ok g0 v0 l w x0 r0 y n)
  · rw [show cuC l = 2 by rw [cuC, if_neg n], show cuB l = [] by rw [cuB, if_neg n]]
    exact (faceCountUp_no _ _ l v w h (fun w g0 v0 x0 r0 => cu1_no g0 v0 l w x0 r0 n)).mono fun e w' ⟨he, hb⟩ => ⟨_, he, Owx.nil _ _, hb⟩
end Go.Proofs.Ytcmafbgfdddnnab.W

namespace Go.Proofs.Ytcmafbgfdddnnab.W
open Go.ChangeShapes Go.WideShapes Go.ChangeAt Go.RowKit
open Go.Proofs.Ytcmafbgfdddnnab.M

theorem keepG {W a b : World} {p q : Nat} {x1 x2 z1 z2 : Value}
    (h : Below W.heap.size W a ∧ a.cell? ⟨p, 0, none⟩ = some x1 ∧ a.cell? ⟨p, 1, none⟩ = some x2 ∧ a.cell? ⟨q, 0, none⟩ = some z1 ∧ a.cell? ⟨q, 1, none⟩ = some z2) (hB : Below a.heap.size a b) :
    Below W.heap.size W b ∧ b.cell? ⟨p, 0, none⟩ = some x1 ∧ b.cell? ⟨p, 1, none⟩ = some x2 ∧ b.cell? ⟨q, 0, none⟩ = some z1 ∧ b.cell? ⟨q, 1, none⟩ = some z2 :=
  ⟨h.1.trans (hB.mono h.1.size), cell_kept hB h.2.1, cell_kept hB h.2.2.1, cell_kept hB h.2.2.2.1, cell_kept hB h.2.2.2.2⟩
theorem keepE {W a b : World} {p : Nat} {x1 x2 : Value}
    (h : Below W.heap.size W a ∧ a.cell? ⟨p, 0, none⟩ = some x1 ∧ a.cell? ⟨p, 1, none⟩ = some x2) (hB : Below a.heap.size a b) :
    Below W.heap.size W b ∧ b.cell? ⟨p, 0, none⟩ = some x1 ∧ b.cell? ⟨p, 1, none⟩ = some x2 :=
  ⟨h.1.trans (hB.mono h.1.size), cell_kept hB h.2.1, cell_kept hB h.2.2⟩
theorem sam_self (l : List Nat) : sameS l l = true := by simp [sameS]

/-- s[:k] of any slice. -/
theorem run_upto' (a : Option Addr) (n c k : Nat) (hk : k ≤ c) (w : World) :
    (Instr.slice 22 (.slice a n c) none (some (.int .i64 (k : Int))) none).run Try.prog w = .ok (.slice a k c) w := by
  have hs : ∀ w : World, (sizeOf (Try.prog.elem 22)).run Try.prog w = .ok 1 w := fun _ => by kernel_rfl
  have h := run_slice_h (P := Try.prog) (t := 22) (a := a) (len := n) (cap := c) (w := w) (by kernel_rfl) .i64 (k : Int) (by omega) (by omega)
  rw [h, hs]
  cases a with
  | none => simp [Result.andThen, sliced]
  | some x =>
    obtain ⟨b, o, t⟩ := x
    simp [Result.andThen, sliced, Addr.add]
theorem rd_take {w : World} {a : Option Addr} {n c : Nat} {l : List Nat} (h : Rd w (.slice a n c) l) (k : Nat) (hk : k ≤ l.length) : Rd w (.slice a k c) (l.take k) := by
  obtain ⟨a', c', e, h1, h2, hc⟩ := h
  have hl : (l.take k).length = k := by rw [List.length_take]; omega
  cases e
  refine ⟨a, c, by rw [hl], by omega, h2, fun i hi => ?_⟩
  rw [hl] at hi
  obtain ⟨b, o, e', hcc⟩ := hc i (by omega)
  refine ⟨b, o, e', ?_⟩
  rw [hcc, List.getElem_take]
/-- The laws' own draw of a number up to n. -/
theorem lwat1 (v : Value) (l : List Nat) (w : World) (n : Nat) (h : Rd w v l) (y : Byt l) (hn : n ≤ 601) (hl : l.length ≤ 1048576) :
    Calls Try.prog 15 #[v, .int .i64 2, .int .i64 ((n : Int) + 1)] w fun e w' => ∃ j : Nat, e = .returned (.int .i64 (j : Int)) ∧ j ≤ n ∧ Below w.heap.size w w' := by
  by_cases h0 : n = 0
  · subst h0
    obtain ⟨a, cap, rfl, _, _, _⟩ := h.parts
    clear h
    go_enter Try.func15, Try.ntmps15
    go_wp2
    go_ret
    exact ⟨0, rfl, by omega, Below.refl _ _⟩
  · exact (lwat v l w 2 ((n : Int) + 1) h y (by omega) (by omega) (by omega) hl).mono (fun e w' ⟨r, he, ⟨h0, h1⟩, m, hw⟩ => ⟨r.toNat, by rw [he, Int.toNat_of_nonneg h0], by omega, by rw [hw]; exact below_drewN (Below.refl _ _) m⟩)

set_option maxHeartbeats 16000000 in
set_option maxRecDepth 100000 in
theorem law_stm (v : Value) (l : List Nat) (w : World) (h : Rd w v l) (y : Byt l) :
    Calls Try.prog 3 #[v] w fun e w' => e = .returned (.bool true) ∧ Below w.heap.size w w' := by
  have RC := hid h
  obtain ⟨q, cap, rfl, _, _, _⟩ := h.parts
  clear h
  by_cases hl : l.length ≤ 1048576
  · go_enter Try.func3, Try.ntmps3
    go_wp2_with (go_at_call 7; go_in)
    refine (drawSx _ l _ RC.out y hl).mono ?_
    rintro e w1 ⟨ga, ka, gb, kb, gd, kd, a, b, d, rfl, la, lb, ld, ya, yb, yd, OA, OB, OD, hBel⟩
    replace RC := hid (RC.out.below hBel)
    have RA := OA.rd
    have RB := OB.rd
    have RD := OD.rd
    have HB := hid hBel
    clear OA OB OD hBel
    obtain ⟨na, hna⟩ : ∃ n, n = a.length := ⟨_, rfl⟩
    rw [← hna] at RA ⊢
    have Hna := hid hna
    clear hna
    obtain ⟨nb, hnb⟩ : ∃ n, n = b.length := ⟨_, rfl⟩
    rw [← hnb] at RB ⊢
    have Hnb := hid hnb
    clear hnb
    obtain ⟨nd, hnd⟩ : ∃ n, n = d.length := ⟨_, rfl⟩
    rw [← hnd] at RD ⊢
    have Hnd := hid hnd
    clear hnd
    replace RA := hid RA
    replace RB := hid RB
    replace RD := hid RD
    go_wp2_with fail
    refine (isx _ _ _ a b d _ RA.out RB.out RD.out ya yb yd).mono ?_
    rintro e w2 ⟨vr, rfl, OE, hB⟩
    have RS := OE.rd
    obtain ⟨pS, kS, rfl, -, -, -⟩ := RS.parts
    replace RC := hid (RC.out.below hB)
    replace RA := hid (RA.out.below hB)
    replace RB := hid (RB.out.below hB)
    replace RD := hid (RD.out.below hB)
    replace HB := hid (HB.out.trans (hB.mono HB.out.size))
    clear hB OE
    obtain ⟨BS, hb⟩ : ∃ B, B = sxB a b d := ⟨_, rfl⟩
    obtain ⟨cS, hc⟩ : ∃ c, c = sxC a b d := ⟨_, rfl⟩
    obtain ⟨mS, hm⟩ : ∃ m, m = BS.length := ⟨_, rfl⟩
    rw [← hb] at RS ⊢
    rw [← hc]
    rw [← hm] at RS ⊢
    have HBS := hid hb
    have HCS := hid hc
    have HMS := hid hm
    replace RS := hid RS
    clear hb hc hm
    go_wp2_with fail
    have VS := hid (heap_alloc_new w2 (.cells #[.int .i64 cS, .slice pS mS kS] 27))
    have hA := below_alloc1 w2 (.cells #[.int .i64 cS, .slice pS mS kS] 27)
    replace RC := hid (RC.out.below hA)
    replace RA := hid (RA.out.below hA)
    replace RB := hid (RB.out.below hA)
    replace RD := hid (RD.out.below hA)
    replace RS := hid (RS.out.below hA)
    replace HB := hid (HB.out.trans (hA.mono HB.out.size))
    clear hA
    generalize w2.alloc (.cells #[.int .i64 cS, .slice pS mS kS] 27) = w2a at *
    generalize w2.heap.size = gS at *
    refine (drawCu _ l _ RC.out y hl).mono ?_
    rintro e w3 ⟨gt', kt, t, rfl, lt, yt, OT, hBel⟩
    replace RC := hid (RC.out.below hBel)
    replace RA := hid (RA.out.below hBel)
    replace RB := hid (RB.out.below hBel)
    replace RD := hid (RD.out.below hBel)
    replace RS := hid (RS.out.below hBel)
    replace VS := hid (var_below hBel VS.out)
    replace HB := hid (HB.out.trans (hBel.mono HB.out.size))
    have RT := OT.rd
    clear OT hBel
    obtain ⟨nt, hnt⟩ : ∃ n, n = t.length := ⟨_, rfl⟩
    rw [← hnt] at RT ⊢
    have Hnt := hid hnt
    clear hnt
    replace RT := hid RT
    go_wp2_with fail
    refine (icu _ t _ RT.out yt).mono ?_
    rintro e w4 ⟨vr, rfl, OE, hB⟩
    have RU := OE.rd
    obtain ⟨pU, kU, rfl, -, -, -⟩ := RU.parts
    replace RC := hid (RC.out.below hB)
    replace RA := hid (RA.out.below hB)
    replace RB := hid (RB.out.below hB)
    replace RD := hid (RD.out.below hB)
    replace RS := hid (RS.out.below hB)
    replace RT := hid (RT.out.below hB)
    replace VS := hid (var_below hB VS.out)
    replace HB := hid (HB.out.trans (hB.mono HB.out.size))
    clear hB OE
    obtain ⟨BU, hb⟩ : ∃ B, B = cuB t := ⟨_, rfl⟩
    obtain ⟨cU, hc⟩ : ∃ c, c = cuC t := ⟨_, rfl⟩
    obtain ⟨mU, hm⟩ : ∃ m, m = BU.length := ⟨_, rfl⟩
    rw [← hb] at RU ⊢
    rw [← hc]
    rw [← hm] at RU ⊢
    have HBU := hid hb
    have HCU := hid hc
    have HMU := hid hm
    replace RU := hid RU
    clear hb hc hm
    go_wp2_with fail
    have VU := hid (heap_alloc_new w4 (.cells #[.int .i64 cU, .slice pU mU kU] 27))
    have hA := below_alloc1 w4 (.cells #[.int .i64 cU, .slice pU mU kU] 27)
    replace RC := hid (RC.out.below hA)
    replace RA := hid (RA.out.below hA)
    replace RB := hid (RB.out.below hA)
    replace RD := hid (RD.out.below hA)
    replace RS := hid (RS.out.below hA)
    replace RT := hid (RT.out.below hA)
    replace RU := hid (RU.out.below hA)
    replace VS := hid (var_below hA VS.out)
    replace HB := hid (HB.out.trans (hA.mono HB.out.size))
    clear hA
    generalize w4.alloc (.cells #[.int .i64 cU, .slice pU mU kU] 27) = w4a at *
    generalize w4.heap.size = gU at *
    obtain ⟨a0, a1, -, -⟩ := var2_facts VS.out
    obtain ⟨a2, a3, -, -⟩ := var2_facts VU.out
    have C1 := hid (fun (wq : World) (hb : Below w4a.heap.size w4a wq) => (ssx _ _ _ a b d wq (RA.out.below hb) (RB.out.below hb) (RD.out.below hb) ya yb yd).mono (R' := fun e w' => ∃ (p : Option Addr) (cc : Nat), e = .returned (.agg #[.int .i64 cS, .slice p mS cc]) ∧ Rd w' (.slice p mS cc) BS ∧ Below wq.heap.size wq w') (fun e w' ⟨r, he, ho, hb⟩ => by
      have q := ho.rd
      rw [← HBS.out] at q
      obtain ⟨p, cc, rfl, -, -, -⟩ := q.parts
      rw [← HCS.out] at he
      rw [← HMS.out] at he q
      exact ⟨p, cc, he, q, hb⟩))
    have C2 := hid (fun (wq : World) (hb : Below w4a.heap.size w4a wq) => (scu _ t wq (RT.out.below hb) yt).mono (R' := fun e w' => ∃ (p : Option Addr) (cc : Nat), e = .returned (.agg #[.int .i64 cU, .slice p mU cc]) ∧ Rd w' (.slice p mU cc) BU ∧ Below wq.heap.size wq w') (fun e w' ⟨r, he, ho, hb⟩ => by
      have q := ho.rd
      rw [← HBU.out] at q
      obtain ⟨p, cc, rfl, -, -, -⟩ := q.parts
      rw [← HCU.out] at he
      rw [← HMU.out] at he q
      exact ⟨p, cc, he, q, hb⟩))
    have C3 := hid (fun (t : List Nat) (wq : World) (va vb : Value) (ha : Rd wq va t) (hb : Rd wq vb t) => (lwsame va vb t t wq ha hb).mono (R' := fun e w' => e = .returned (.bool true) ∧ Below wq.heap.size wq w') (fun e w' ⟨he, hw⟩ => by
      rw [sam_self] at he
      exact ⟨he, by rw [hw]; exact Below.refl _ _⟩))
    have tg : (cS != cS) = false := by simp
    have tx : (cU != cU) = false := by simp
    have hf0 : ∀ (x : Int) (p : Option Addr) (m cc : Nat) (w : World), (Instr.field 27 (.agg #[.int .i64 x, .slice p m cc]) 0).run Try.prog w = .ok (.int .i64 x) w := fun _ _ _ _ _ => by kernel_rfl
    have hf1 : ∀ (x : Int) (p : Option Addr) (m cc : Nat) (w : World), (Instr.field 27 (.agg #[.int .i64 x, .slice p m cc]) 1).run Try.prog w = .ok (.slice p m cc) w := fun _ _ _ _ _ => by kernel_rfl
    go_wp2_with fail
    go_region_held3 (fun w' => Below w4a.heap.size w4a w' ∧ w'.cell? ⟨gS, 0, none⟩ = some (.int .i64 cS) ∧ w'.cell? ⟨gS, 1, none⟩ = some (.slice pS mS kS) ∧ w'.cell? ⟨gU, 0, none⟩ = some (.int .i64 cU) ∧ w'.cell? ⟨gU, 1, none⟩ = some (.slice pU mU kU))
      (first | exact ⟨(Below.refl _ _).drew, a0, a1, a2, a3⟩ | exact ⟨Below.refl _ _, a0, a1, a2, a3⟩ | exact keepG ‹_ ∧ _ ∧ _› hz)
      (first | (go_at_call 12; refine (C1.out _ ?_).mono ?_; exact (‹Below w4a.heap.size w4a _ ∧ _›).1; rintro e wq ⟨pq, cq, rfl, hq', hz⟩) | (go_at_call 13; refine (C2.out _ ?_).mono ?_; exact (‹Below w4a.heap.size w4a _ ∧ _›).1; rintro e wq ⟨pq, cq, rfl, hq, hz⟩) | (go_at_call 14; refine (C3.out _ _ _ _ ?_ hq).mono ?_; exact RU.out.below (‹Below w4a.heap.size w4a _ ∧ _›).1; rintro e wx ⟨rfl, hz⟩))
    have hS := (‹Below w4a.heap.size w4a wx ∧ _›).1
    replace RC := hid (RC.out.below hS)
    replace RA := hid (RA.out.below hS)
    replace RB := hid (RB.out.below hS)
    replace RD := hid (RD.out.below hS)
    replace RS := hid (RS.out.below hS)
    replace RT := hid (RT.out.below hS)
    replace RU := hid (RU.out.below hS)
    replace VS := hid (var_below hS VS.out)
    replace VU := hid (var_below hS VU.out)
    replace HB := hid (HB.out.trans (hS.mono HB.out.size))
    clear hS C1 C2 C3 hz hq hq' tg tx a0 a1 a2 a3
    by_cases hx : sxOk a b d
    · have hc0 : cS = 0 := by rw [HCS.out, sxC, if_pos hx]
      have EX : BS = strm (kf a) b d := by rw [HBS.out, sxB, if_pos hx]
      have hm : mS = nd := by rw [HMS.out, EX, strm_len, Hnd.out]
      subst hc0
      subst hm
      subst EX
      replace hx := hid hx
      clear HCS HBS HMS
      obtain ⟨a0, a1, -, -⟩ := var2_facts VS.out
      have hn : mS ≤ 601 := by have := Hnd.out; omega
      go_wp2_with fail
      refine (lwat1 _ l _ mS RC.out y hn hl).mono ?_
      rintro e w5 ⟨j, rfl, hj, hB⟩
      replace RC := hid (RC.out.below hB)
      replace RA := hid (RA.out.below hB)
      replace RB := hid (RB.out.below hB)
      replace RD := hid (RD.out.below hB)
      replace RS := hid (RS.out.below hB)
      replace RT := hid (RT.out.below hB)
      replace RU := hid (RU.out.below hB)
      replace VS := hid (var_below hB VS.out)
      replace VU := hid (var_below hB VU.out)
      replace HB := hid (HB.out.trans (hB.mono HB.out.size))
      clear hB a0 a1
      have hkd : j ≤ kd := by
        obtain ⟨_, _, e, h1, -, -⟩ := RD.out.parts
        cases e
        have := Hnd.out
        omega
      have hkS : j ≤ kS := by
        obtain ⟨_, _, e, h1, -, -⟩ := RS.out.parts
        cases e
        rw [strm_len] at h1
        have := Hnd.out
        omega
      have U1 := run_upto' (some ⟨gd, 0, none⟩) mS kd j hkd
      have U2 := run_upto' pS mS kS j hkS
      have RE := hid (rd_take RD.out j (by rw [← Hnd.out]; exact hj))
      have RF := hid (rd_take RS.out j (by rw [strm_len, ← Hnd.out]; exact hj))
      go_wp2_with fail
      refine (isx _ _ _ a b (d.take j) _ RA.out RB.out RE.out ya yb (fun x hx => yd x (List.mem_of_mem_take hx))).mono ?_
      rintro e w6 ⟨vr, rfl, OE, hB⟩
      have RP := OE.rd
      obtain ⟨pP, kP, rfl, -, -, -⟩ := RP.parts
      replace RC := hid (RC.out.below hB)
      replace RA := hid (RA.out.below hB)
      replace RB := hid (RB.out.below hB)
      replace RD := hid (RD.out.below hB)
      replace RS := hid (RS.out.below hB)
      replace RE := hid (RE.out.below hB)
      replace RF := hid (RF.out.below hB)
      replace VS := hid (var_below hB VS.out)
      replace HB := hid (HB.out.trans (hB.mono HB.out.size))
      clear hB OE
      obtain ⟨BP, hb⟩ : ∃ B, B = sxB a b (d.take j) := ⟨_, rfl⟩
      obtain ⟨cP, hc⟩ : ∃ c, c = sxC a b (d.take j) := ⟨_, rfl⟩
      obtain ⟨mP, hm⟩ : ∃ m, m = BP.length := ⟨_, rfl⟩
      rw [← hb] at RP ⊢
      rw [← hc]
      rw [← hm] at RP ⊢
      have HBP := hid hb
      have HCP := hid hc
      have HMP := hid hm
      replace RP := hid RP
      clear hb hc hm
      go_wp2_with fail
      have VP := hid (heap_alloc_new w6 (.cells #[.int .i64 cP, .slice pP mP kP] 27))
      have hA := below_alloc1 w6 (.cells #[.int .i64 cP, .slice pP mP kP] 27)
      replace RC := hid (RC.out.below hA)
      replace RA := hid (RA.out.below hA)
      replace RB := hid (RB.out.below hA)
      replace RD := hid (RD.out.below hA)
      replace RS := hid (RS.out.below hA)
      replace RE := hid (RE.out.below hA)
      replace RF := hid (RF.out.below hA)
      replace RP := hid (RP.out.below hA)
      replace VS := hid (var_below hA VS.out)
      replace HB := hid (HB.out.trans (hA.mono HB.out.size))
      clear hA
      generalize w6.alloc (.cells #[.int .i64 cP, .slice pP mP kP] 27) = w6a at *
      generalize w6.heap.size = gP at *
      have ok : sxOk a b (d.take j) := by
        have := hx.out
        unfold sxOk at this ⊢
        rw [List.length_take]
        omega
      have hc0 : cP = 0 := by rw [HCP.out, sxC, if_pos ok]
      have EP : BP = (strm (kf a) b d).take j := by rw [HBP.out, sxB, if_pos ok, strm_take]
      have hm : mP = j := by rw [HMP.out, EP, List.length_take, strm_len, ← Hnd.out]; omega
      subst hc0
      subst hm
      subst EP
      clear HCP HBP HMP ok
      have YS := hid (strm_byt (kf a) (kf_lt a ya) b d yb yd)
      have K1 := hid (fun (wq : World) (hb : Below w6a.heap.size w6a wq) => (isx _ _ _ a b (strm (kf a) b d) wq (RA.out.below hb) (RB.out.below hb) (RS.out.below hb) ya yb YS.out).mono (R' := fun e w' => ∃ (p : Option Addr) (cc : Nat), e = .returned (.agg #[.int .i64 0, .slice p mS cc]) ∧ Rd w' (.slice p mS cc) d ∧ Below wq.heap.size wq w') (fun e w' ⟨r, he, ho, hb⟩ => by
        have q := ho.rd
        have ok : sxOk a b (strm (kf a) b d) := by
          have := hx.out
          unfold sxOk at this ⊢
          rw [strm_len]
          exact this
        rw [sxC, if_pos ok] at he
        rw [sxB, if_pos ok, strm_strm] at q
        obtain ⟨p, cc, rfl, -, -, -⟩ := q.parts
        rw [← Hnd.out] at he q
        exact ⟨p, cc, he, q, hb⟩))
      have K2 := hid (fun (wq : World) (hb : Below w6a.heap.size w6a wq) => (ssx _ _ _ a b d wq (RA.out.below hb) (RB.out.below hb) (RD.out.below hb) ya yb yd).mono (R' := fun e w' => ∃ (p : Option Addr) (cc : Nat), e = .returned (.agg #[.int .i64 0, .slice p mS cc]) ∧ Rd w' (.slice p mS cc) (strm (kf a) b d) ∧ Below wq.heap.size wq w') (fun e w' ⟨r, he, ho, hb⟩ => by
        have q := ho.rd
        rw [sxC, if_pos hx.out] at he
        rw [sxB, if_pos hx.out] at q
        obtain ⟨p, cc, rfl, -, -, -⟩ := q.parts
        rw [strm_len, ← Hnd.out] at he q
        exact ⟨p, cc, he, q, hb⟩))
      have C3 := hid (fun (t : List Nat) (wq : World) (va vb : Value) (ha : Rd wq va t) (hb : Rd wq vb t) => (lwsame va vb t t wq ha hb).mono (R' := fun e w' => e = .returned (.bool true) ∧ Below wq.heap.size wq w') (fun e w' ⟨he, hw⟩ => by
        rw [sam_self] at he
        exact ⟨he, by rw [hw]; exact Below.refl _ _⟩))
      obtain ⟨b0, b1, -, -⟩ := var2_facts VS.out
      obtain ⟨b2, b3, -, -⟩ := var2_facts VP.out
      have te : ((mS : Int) == (mS : Int)) = true := by simp
      clear hx
      go_wp2_with fail
      go_region_held3 (fun w' => Below w6a.heap.size w6a w' ∧ w'.cell? ⟨gS, 0, none⟩ = some (.int .i64 0) ∧ w'.cell? ⟨gS, 1, none⟩ = some (.slice pS mS kS) ∧ w'.cell? ⟨gP, 0, none⟩ = some (.int .i64 0) ∧ w'.cell? ⟨gP, 1, none⟩ = some (.slice pP mP kP))
        (first | exact ⟨(Below.refl _ _).drew, b0, b1, b2, b3⟩ | exact ⟨Below.refl _ _, b0, b1, b2, b3⟩ | exact keepG ‹_ ∧ _ ∧ _› hz)
        (first | (go_at_call 9; refine (K1.out _ (‹Below w6a.heap.size w6a _ ∧ _›).1).mono ?_; rintro e wq1 ⟨p1, c1, rfl, hq1, hz⟩) | (go_at_call 12; refine (K2.out _ (‹Below w6a.heap.size w6a _ ∧ _›).1).mono ?_; rintro e wq2 ⟨p2, c2, rfl, hq2, hz⟩) | (go_at_call 14; (first | (with_reducible refine (C3.out _ _ _ _ (RS.out.below (‹Below w6a.heap.size w6a _ ∧ _›).1) hq2).mono ?_; rintro e wx1 ⟨rfl, hz⟩) | (with_reducible refine (C3.out _ _ _ _ hq1 (RD.out.below (‹Below w6a.heap.size w6a _ ∧ _›).1)).mono ?_; rintro e wx1 ⟨rfl, hz⟩) | (with_reducible refine (C3.out _ _ _ _ (RP.out.below (‹Below w6a.heap.size w6a _ ∧ _›).1) (RF.out.below (‹Below w6a.heap.size w6a _ ∧ _›).1)).mono ?_; rintro e wx1 ⟨rfl, hz⟩))))
      have hS := ‹Below w6a.heap.size w6a _ ∧ _›
      have HF := hid (HB.out.trans (hS.1.mono HB.out.size))
      clear hS
      go_wp2
      go_ret
      exact ⟨rfl, HF.out⟩
    · have hc0 : cS ≠ 0 := by rw [HCS.out, sxC, if_neg hx]; omega
      have tx : (cS != 0) = true := by rw [bne_iff_ne]; exact hc0
      obtain ⟨a0, a1, -, -⟩ := var2_facts VS.out
      clear hc0 HCS HBS HMS hx
      go_wp2
      go_ret
      exact ⟨rfl, HB.out⟩
  · go_enter Try.func3, Try.ntmps3
    go_wp2_with (go_at_call 7; go_in)
    go_ret
    exact ⟨rfl, Below.refl _ _⟩
end Go.Proofs.Ytcmafbgfdddnnab.W
