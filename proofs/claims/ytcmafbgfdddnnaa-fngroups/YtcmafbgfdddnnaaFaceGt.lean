/-
  What the program's GroupTimes hands on to its closure at the face.
-/
import Derived.Test.YtcmafbgfdddnnaaFaceWalks
import Derived.Test.YtcmafbgfdddnnaaBxM
namespace Go.Proofs.Ytcmafbgfdddnnaa.W
open Go.ChangeShapes Go.WideShapes Go.ChangeAt Go.RowKit
open Go.Proofs.Ytcmafbgfdddnnaa.M

theorem run_enterGroupTimes (w : World) (a : Array Value) : (callFunc 89 a).run Try.prog w = .ok (.enter 89 a) w := by
  exact run_into Try.func89 (by kernel_rfl) rfl a w

set_option maxRecDepth 100000 in
theorem faceGroupTimes_ok (c : Int) (l : List Nat) (l0 l1 : List Nat) (v0 v1 : Value) (w : World) (h0 : Rd w v0 l0) (h1 : Rd w v1 l1)
    (HC : ∀ (w : World) (g0 g1 : Nat) (v0 v1 : Value), Bx w g0 v0 → Bx w g1 v1 → Rd w v0 l0 → Rd w v1 l1 → Calls Try.prog 89 #[.pointer (some ⟨g0, 0, none⟩), .pointer (some ⟨g1, 0, none⟩)] w fun e w' => ∃ r, e = .returned (.agg #[.int .i64 c, r]) ∧ Owx w' w.heap.size r l ∧ Below w.heap.size w w') :
    Calls Try.prog 50 #[v0, v1] w fun e w' => ∃ r, e = .returned (.agg #[.int .i64 c, r]) ∧ Owx w' w.heap.size r l ∧ Below w.heap.size w w' := by
  obtain ⟨p0, cap0, rfl, -, -, -⟩ := h0.parts
  obtain ⟨p1, cap1, rfl, -, -, -⟩ := h1.parts
  have hmf : ∀ (fn : Fn) (first cap : Array Value) (w : World), (Instr.makeFunc fn first cap).run Try.prog w = .ok (.func fn first cap) w := fun _ _ _ _ => rfl
  have BF : Below w.heap.size w ((((w.alloc (.cells #[(.slice p0 l0.length cap0)] 22)).alloc (.cells #[(.slice p1 l1.length cap1)] 22)).alloc (.cells #[.int .i64 0, .slice none 0 0] 33)).alloc (.cells #[.int .i64 0, .slice none 0 0] 33)) := by repeat (first | exact Below.refl _ _ | refine Below.alloc ?_ (by simp; try omega) _)
  have X0 : Bx (w.alloc (.cells #[(.slice p0 l0.length cap0)] 22)) (w.heap.size) (.slice p0 l0.length cap0) := by
    have q := heap_alloc_new w (.cells #[(.slice p0 l0.length cap0)] 22)
    unfold Bx
    rw [cell_of_row _ _ 0 _ _ _ q]
    rfl
  have Y0 := hid (show Bx ((((w.alloc (.cells #[(.slice p0 l0.length cap0)] 22)).alloc (.cells #[(.slice p1 l1.length cap1)] 22)).alloc (.cells #[.int .i64 0, .slice none 0 0] 33)).alloc (.cells #[.int .i64 0, .slice none 0 0] 33)) (w.heap.size) (.slice p0 l0.length cap0) from (((X0.below (below_alloc1 _ _)).below (below_alloc1 _ _)).below (below_alloc1 _ _)))
  have X1 : Bx ((w.alloc (.cells #[(.slice p0 l0.length cap0)] 22)).alloc (.cells #[(.slice p1 l1.length cap1)] 22)) (w.heap.size + 1) (.slice p1 l1.length cap1) := by
    have q := heap_alloc_new (w.alloc (.cells #[(.slice p0 l0.length cap0)] 22)) (.cells #[(.slice p1 l1.length cap1)] 22)
    simp only [World.size_alloc] at q
    unfold Bx
    rw [cell_of_row _ _ 0 _ _ _ q]
    rfl
  have Y1 := hid (show Bx ((((w.alloc (.cells #[(.slice p0 l0.length cap0)] 22)).alloc (.cells #[(.slice p1 l1.length cap1)] 22)).alloc (.cells #[.int .i64 0, .slice none 0 0] 33)).alloc (.cells #[.int .i64 0, .slice none 0 0] 33)) (w.heap.size + 1) (.slice p1 l1.length cap1) from ((X1.below (below_alloc1 _ _)).below (below_alloc1 _ _)))
  have VB := heap_alloc_new ((w.alloc (.cells #[(.slice p0 l0.length cap0)] 22)).alloc (.cells #[(.slice p1 l1.length cap1)] 22)) (.cells #[.int .i64 0, .slice none 0 0] 33)
  simp only [World.size_alloc] at VB
  have BB : Below w.heap.size w (((w.alloc (.cells #[(.slice p0 l0.length cap0)] 22)).alloc (.cells #[(.slice p1 l1.length cap1)] 22)).alloc (.cells #[.int .i64 0, .slice none 0 0] 33)) := by repeat (first | exact Below.refl _ _ | refine Below.alloc ?_ (by simp; try omega) _)
  have C := HC ((((w.alloc (.cells #[(.slice p0 l0.length cap0)] 22)).alloc (.cells #[(.slice p1 l1.length cap1)] 22)).alloc (.cells #[.int .i64 0, .slice none 0 0] 33)).alloc (.cells #[.int .i64 0, .slice none 0 0] 33)) (w.heap.size) (w.heap.size + 1) _ _ Y0.out Y1.out (h0.below BF) (h1.below BF)
  have FC := hid (face_ok 89 #[.pointer (some ⟨w.heap.size, 0, none⟩), .pointer (some ⟨w.heap.size + 1, 0, none⟩)] c l (((w.alloc (.cells #[(.slice p0 l0.length cap0)] 22)).alloc (.cells #[(.slice p1 l1.length cap1)] 22)).alloc (.cells #[.int .i64 0, .slice none 0 0] 33)) (fun w => run_enterGroupTimes w _) (by
    have q := C
    simp only [World.size_alloc] at q ⊢
    exact q))
  have VH := hid VB
  have BH := hid BB
  clear C HC VB BB BF X0 X1 Y0 Y1 h0 h1
  go_enter Try.func50, Try.ntmps50
  go_wp2_with fail
  refine FC.out.mono ?_
  rintro e w1 ⟨r, rfl, O, hB⟩
  obtain ⟨q, cp, rfl, -, -, -⟩ := O.rd.parts
  have V := var_below hB VH.out
  have hz := var_lt VH.out
  have B1 := BH.out.trans (hB.mono BH.out.size)
  obtain ⟨f1, f2, f3, f4⟩ := var2_facts V
  have hset := hid (var2_set (x' := .int .i64 c) (y' := .slice q l.length cp) V)
  have hbel := hid (below_set2 (x := .int .i64 c) (y := .slice q l.length cp) B1 (show w.heap.size ≤ w.heap.size + 1 + 1 by omega))
  have hown := hid ((O.set2 (g := w.heap.size + 1 + 1) (x := .int .i64 c) (y := .slice q l.length cp) hz).mono (base' := w.heap.size) (BH.out.size))
  clear V B1 hB FC VH BH O
  go_wp2
  exact bodyPost_ret (v := .agg #[.int .i64 c, .slice q l.length cp]) (results_cell_row rfl _ _ (w.heap.size + 1 + 1) 33 _ _ _ rfl hset.out Try.underlying33 rfl (by kernel_rfl)) rfl ⟨_, rfl, hown.out, hbel.out⟩

set_option maxRecDepth 100000 in
theorem faceGroupTimes_no (u : TypeId) (pv : Value) (l0 l1 : List Nat) (v0 v1 : Value) (w : World) (h0 : Rd w v0 l0) (h1 : Rd w v1 l1)
    (HC : ∀ (w : World) (g0 g1 : Nat) (v0 v1 : Value), Bx w g0 v0 → Bx w g1 v1 → Rd w v0 l0 → Rd w v1 l1 → Calls Try.prog 89 #[.pointer (some ⟨g0, 0, none⟩), .pointer (some ⟨g1, 0, none⟩)] w fun e w' => e = .panicked [{ v := .iface u pv, recovered := false }] ∧ Below w.heap.size w w') :
    Calls Try.prog 50 #[v0, v1] w fun e w' => e = .returned (.agg #[.int .i64 2, .slice none 0 0]) ∧ Below w.heap.size w w' := by
  obtain ⟨p0, cap0, rfl, -, -, -⟩ := h0.parts
  obtain ⟨p1, cap1, rfl, -, -, -⟩ := h1.parts
  have hmf : ∀ (fn : Fn) (first cap : Array Value) (w : World), (Instr.makeFunc fn first cap).run Try.prog w = .ok (.func fn first cap) w := fun _ _ _ _ => rfl
  have BF : Below w.heap.size w ((((w.alloc (.cells #[(.slice p0 l0.length cap0)] 22)).alloc (.cells #[(.slice p1 l1.length cap1)] 22)).alloc (.cells #[.int .i64 0, .slice none 0 0] 33)).alloc (.cells #[.int .i64 0, .slice none 0 0] 33)) := by repeat (first | exact Below.refl _ _ | refine Below.alloc ?_ (by simp; try omega) _)
  have X0 : Bx (w.alloc (.cells #[(.slice p0 l0.length cap0)] 22)) (w.heap.size) (.slice p0 l0.length cap0) := by
    have q := heap_alloc_new w (.cells #[(.slice p0 l0.length cap0)] 22)
    unfold Bx
    rw [cell_of_row _ _ 0 _ _ _ q]
    rfl
  have Y0 := hid (show Bx ((((w.alloc (.cells #[(.slice p0 l0.length cap0)] 22)).alloc (.cells #[(.slice p1 l1.length cap1)] 22)).alloc (.cells #[.int .i64 0, .slice none 0 0] 33)).alloc (.cells #[.int .i64 0, .slice none 0 0] 33)) (w.heap.size) (.slice p0 l0.length cap0) from (((X0.below (below_alloc1 _ _)).below (below_alloc1 _ _)).below (below_alloc1 _ _)))
  have X1 : Bx ((w.alloc (.cells #[(.slice p0 l0.length cap0)] 22)).alloc (.cells #[(.slice p1 l1.length cap1)] 22)) (w.heap.size + 1) (.slice p1 l1.length cap1) := by
    have q := heap_alloc_new (w.alloc (.cells #[(.slice p0 l0.length cap0)] 22)) (.cells #[(.slice p1 l1.length cap1)] 22)
    simp only [World.size_alloc] at q
    unfold Bx
    rw [cell_of_row _ _ 0 _ _ _ q]
    rfl
  have Y1 := hid (show Bx ((((w.alloc (.cells #[(.slice p0 l0.length cap0)] 22)).alloc (.cells #[(.slice p1 l1.length cap1)] 22)).alloc (.cells #[.int .i64 0, .slice none 0 0] 33)).alloc (.cells #[.int .i64 0, .slice none 0 0] 33)) (w.heap.size + 1) (.slice p1 l1.length cap1) from ((X1.below (below_alloc1 _ _)).below (below_alloc1 _ _)))
  have VB := heap_alloc_new ((w.alloc (.cells #[(.slice p0 l0.length cap0)] 22)).alloc (.cells #[(.slice p1 l1.length cap1)] 22)) (.cells #[.int .i64 0, .slice none 0 0] 33)
  simp only [World.size_alloc] at VB
  have BB : Below w.heap.size w (((w.alloc (.cells #[(.slice p0 l0.length cap0)] 22)).alloc (.cells #[(.slice p1 l1.length cap1)] 22)).alloc (.cells #[.int .i64 0, .slice none 0 0] 33)) := by repeat (first | exact Below.refl _ _ | refine Below.alloc ?_ (by simp; try omega) _)
  have C := HC ((((w.alloc (.cells #[(.slice p0 l0.length cap0)] 22)).alloc (.cells #[(.slice p1 l1.length cap1)] 22)).alloc (.cells #[.int .i64 0, .slice none 0 0] 33)).alloc (.cells #[.int .i64 0, .slice none 0 0] 33)) (w.heap.size) (w.heap.size + 1) _ _ Y0.out Y1.out (h0.below BF) (h1.below BF)
  have FC := hid (face_no 89 #[.pointer (some ⟨w.heap.size, 0, none⟩), .pointer (some ⟨w.heap.size + 1, 0, none⟩)] u pv (((w.alloc (.cells #[(.slice p0 l0.length cap0)] 22)).alloc (.cells #[(.slice p1 l1.length cap1)] 22)).alloc (.cells #[.int .i64 0, .slice none 0 0] 33)) (fun w => run_enterGroupTimes w _) (by
    have q := C
    simp only [World.size_alloc] at q ⊢
    exact q))
  have VH := hid VB
  have BH := hid BB
  clear C HC VB BB BF X0 X1 Y0 Y1 h0 h1
  go_enter Try.func50, Try.ntmps50
  go_wp2_with fail
  refine FC.out.mono ?_
  rintro e w1 ⟨rfl, hB⟩
  have V := var_below hB VH.out
  have hz := var_lt VH.out
  have B1 := BH.out.trans (hB.mono BH.out.size)
  obtain ⟨f1, f2, f3, f4⟩ := var2_facts V
  have hset := hid (var2_set (x' := .int .i64 2) (y' := .slice none 0 0) V)
  have hbel := hid (below_set2 (x := .int .i64 2) (y := .slice none 0 0) B1 (show w.heap.size ≤ w.heap.size + 1 + 1 by omega))
  clear V B1 hB FC VH BH
  go_wp2
  exact bodyPost_ret (v := .agg #[.int .i64 2, .slice none 0 0]) (results_cell_row rfl _ _ (w.heap.size + 1 + 1) 33 _ _ _ rfl hset.out Try.underlying33 rfl (by kernel_rfl)) rfl ⟨rfl, hbel.out⟩
end Go.Proofs.Ytcmafbgfdddnnaa.W
