/-
  A block counted up: the program's CountUp.
-/
import Derived.Test.YtflnhjbanlpjiaiBoeWalks
import Derived.Test.YtflnhjbanlpjiaiCntWalks
import Derived.Test.YtflnhjbanlpjiaiTellWalks
import Derived.Test.YtflnhjbanlpjiaiFaceCu
import Derived.Test.YtflnhjbanlpjiaiCuC
namespace Go.Proofs.Ytflnhjbanlpjiai.W
open Go.ChangeShapes Go.WideShapes Go.ChangeAt Go.RowKit
open Go.Proofs.Ytflnhjbanlpjiai.M

set_option maxRecDepth 100000 in
theorem cu1_no (ga : Nat) (va : Value) (l : List Nat) (w : World) (ca : Bx w ga va) (ha : Rd w va l) (nl : l.length ≠ 16) :
    Calls Try.prog 23 #[.pointer (some ⟨ga, 0, none⟩)] w fun e w' => e = .panicked [{ v := .iface 9 (.string { data := #[110, 111, 32, 98, 108, 111, 99, 107] }), recovered := false }] ∧ Below w.heap.size w w' := by
  obtain ⟨pa, capa, rfl, -, -, -⟩ := ha.parts
  have B0 := below_alloc1 w (.cells #[.int .i64 0, .slice none 0 0] 24)
  have CA : (w.alloc (.cells #[.int .i64 0, .slice none 0 0] 24)).cell? ⟨ga, 0, none⟩ = some _ := ca.below B0
  have HA := hid (ha.below B0)
  have NL := hid nl
  have BH := hid B0
  clear ca ha nl B0
  go_enter Try.func23, Try.ntmps23
  go_wp2_with fail
  refine (blkof_no _ l _ HA.out NL.out).mono ?_
  rintro e w1 ⟨rfl, hM⟩
  exact ⟨rfl, rfl, BH.out.trans (hM.mono BH.out.size)⟩

set_option maxRecDepth 100000 in
theorem cu1_ok (ga : Nat) (va : Value) (l : List Nat) (w : World) (ca : Bx w ga va) (ha : Rd w va l) (y : Byt l) (nl : l.length = 16) :
    Calls Try.prog 23 #[.pointer (some ⟨ga, 0, none⟩)] w fun e w' => ∃ r, e = .returned (.agg #[.int .i64 0, r]) ∧ Owx w' w.heap.size r (cu l) ∧ Below w.heap.size w w' := by
  obtain ⟨pa, capa, rfl, -, -, -⟩ := ha.parts
  have B0 := below_alloc1 w (.cells #[.int .i64 0, .slice none 0 0] 24)
  have V0 := heap_alloc_new w (.cells #[.int .i64 0, .slice none 0 0] 24)
  have CA : (w.alloc (.cells #[.int .i64 0, .slice none 0 0] 24)).cell? ⟨ga, 0, none⟩ = some _ := ca.below B0
  have HA := hid (ha.below B0)
  have NL := hid nl
  have BX := hid B0
  have VR := hid V0
  clear ca ha nl B0 V0
  go_enter Try.func23, Try.ntmps23
  go_wp2_with fail
  refine (blkof _ l _ HA.out NL.out).mono ?_
  rintro e w1 ⟨rfl, hM⟩
  replace VR := hid (var_below hM VR.out)
  replace BX := hid (BX.out.trans (hM.mono BX.out.size))
  clear hM CA HA
  go_wp2_with fail
  refine (counted l _ NL.out y).mono ?_
  rintro e w2 ⟨rfl, hM⟩
  replace VR := hid (var_below hM VR.out)
  replace BX := hid (BX.out.trans (hM.mono BX.out.size))
  clear hM
  go_wp2_with fail
  refine (tellb (cu l) _ (cu_len l NL.out)).mono ?_
  rintro e w5 ⟨r, rfl, O, hM⟩
  obtain ⟨q, c, rfl, -, -, -⟩ := O.rd.parts
  have hz5 := var_lt VR.out
  have V9 := var_below hM VR.out
  have B9 := BX.out.trans (hM.mono BX.out.size)
  obtain ⟨f1, f2, f3, f4⟩ := var2_facts V9
  have hset := hid (var2_set (x' := .int .i64 0) (y' := .slice q (cu l).length c) V9)
  have hbel := hid (below_set2 (x := .int .i64 0) (y := .slice q (cu l).length c) B9 (Nat.le_refl _))
  have hown := hid ((O.set2 (g := w.heap.size) (x := .int .i64 0) (y := .slice q (cu l).length c) hz5).mono (base' := w.heap.size) (BX.out.size))
  clear V9 B9 O hM
  go_wp2
  exact bodyPost_ret (v := .agg #[.int .i64 0, .slice q (cu l).length c]) (results_cell_row rfl _ _ w.heap.size 24 _ _ _ rfl hset.out Try.underlying24 rfl (by kernel_rfl)) rfl ⟨_, rfl, hown.out, hbel.out⟩

theorem icu (v : Value) (l : List Nat) (w : World) (h : Rd w v l) (y : Byt l) :
    Calls Try.prog 9 #[v] w fun e w' => ∃ r, e = .returned (.agg #[.int .i64 (cuC l), r]) ∧ Owx w' w.heap.size r (cuB l) ∧ Below w.heap.size w w' := by
  by_cases n : l.length = 16
  · rw [show cuC l = 0 by rw [cuC, if_pos n], show cuB l = cu l by rw [cuB, if_pos n]]
    exact faceCountUp_ok 0 (cu l) l v w h (fun w g0 v0 x0 r0 => cu1_ok g0 v0 l w x0 r0 y n)
  · rw [show cuC l = 2 by rw [cuC, if_neg n], show cuB l = [] by rw [cuB, if_neg n]]
    exact (faceCountUp_no _ _ l v w h (fun w g0 v0 x0 r0 => cu1_no g0 v0 l w x0 r0 n)).mono fun e w' ⟨he, hb⟩ => ⟨_, he, Owx.nil _ _, hb⟩
end Go.Proofs.Ytflnhjbanlpjiai.W
