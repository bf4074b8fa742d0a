/-
  What the program's StreamXor hands on to its closure at the face.
  What is hidden: what the program's StreamXor answers.
-/
import Derived.Test.YtckgjghpfjinfaiGEStreamXor1
import Derived.Test.YtckgjghpfjinfaiSxC

namespace Go.Proofs.Ytckgjghpfjinfai.W
open Go.ChangeShapes Go.WideShapes Go.ChangeAt Go.RowKit
open Go.Proofs.Ytckgjghpfjinfai.M

theorem run_enterStreamXor (w : World) (a : Array Value) : (callFunc 46 a).run Try.prog w = .ok (.enter 46 a) w := by
  exact run_into Try.func46 (by kernel_rfl) rfl a w

set_option maxRecDepth 100000 in
theorem faceStreamXor_ok (c : Int) (l : List Nat) (l0 l1 l2 : List Nat) (v0 v1 v2 : Value) (w : World) (h0 : Rd w v0 l0) (h1 : Rd w v1 l1) (h2 : Rd w v2 l2)
    (HC : ∀ (w : World) (g0 g1 g2 : Nat) (v0 v1 v2 : Value), Bx w g0 v0 → Bx w g1 v1 → Bx w g2 v2 → Rd w v0 l0 → Rd w v1 l1 → Rd w v2 l2 → Calls Try.prog 46 #[.pointer (some ⟨g1, 0, none⟩), .pointer (some ⟨g0, 0, none⟩), .pointer (some ⟨g2, 0, none⟩)] w fun e w' => ∃ r, e = .returned (.agg #[.int .i64 c, r]) ∧ Owx w' w.heap.size r l ∧ Below w.heap.size w w') :
    Calls Try.prog 18 #[v0, v1, v2] w fun e w' => ∃ r, e = .returned (.agg #[.int .i64 c, r]) ∧ Owx w' w.heap.size r l ∧ Below w.heap.size w w' := by
  obtain ⟨p0, cap0, rfl, -, -, -⟩ := h0.parts
  obtain ⟨p1, cap1, rfl, -, -, -⟩ := h1.parts
  obtain ⟨p2, cap2, rfl, -, -, -⟩ := h2.parts
  have hmf : ∀ (fn : Fn) (first cap : Array Value) (w : World), (Instr.makeFunc fn first cap).run Try.prog w = .ok (.func fn first cap) w := fun _ _ _ _ => rfl
  have BF : Below w.heap.size w (((((w.alloc (.cells #[(.slice p0 l0.length cap0)] 22)).alloc (.cells #[(.slice p1 l1.length cap1)] 22)).alloc (.cells #[(.slice p2 l2.length cap2)] 22)).alloc (.cells #[.int .i64 0, .slice none 0 0] 24)).alloc (.cells #[.int .i64 0, .slice none 0 0] 24)) := by repeat (first | exact Below.refl _ _ | refine Below.alloc ?_ (by simp; try omega) _)
  have X0 : Bx (w.alloc (.cells #[(.slice p0 l0.length cap0)] 22)) (w.heap.size) (.slice p0 l0.length cap0) := by
    have q := heap_alloc_new w (.cells #[(.slice p0 l0.length cap0)] 22)
    unfold Bx
    rw [cell_of_row _ _ 0 _ _ _ q]
    rfl
  have Y0 := hid (show Bx (((((w.alloc (.cells #[(.slice p0 l0.length cap0)] 22)).alloc (.cells #[(.slice p1 l1.length cap1)] 22)).alloc (.cells #[(.slice p2 l2.length cap2)] 22)).alloc (.cells #[.int .i64 0, .slice none 0 0] 24)).alloc (.cells #[.int .i64 0, .slice none 0 0] 24)) (w.heap.size) (.slice p0 l0.length cap0) from ((((X0.below (below_alloc1 _ _)).below (below_alloc1 _ _)).below (below_alloc1 _ _)).below (below_alloc1 _ _)))
  have X1 : Bx ((w.alloc (.cells #[(.slice p0 l0.length cap0)] 22)).alloc (.cells #[(.slice p1 l1.length cap1)] 22)) (w.heap.size + 1) (.slice p1 l1.length cap1) := by
    have q := heap_alloc_new (w.alloc (.cells #[(.slice p0 l0.length cap0)] 22)) (.cells #[(.slice p1 l1.length cap1)] 22)
    simp only [World.size_alloc] at q
    unfold Bx
    rw [cell_of_row _ _ 0 _ _ _ q]
    rfl
  have Y1 := hid (show Bx (((((w.alloc (.cells #[(.slice p0 l0.length cap0)] 22)).alloc (.cells #[(.slice p1 l1.length cap1)] 22)).alloc (.cells #[(.slice p2 l2.length cap2)] 22)).alloc (.cells #[.int .i64 0, .slice none 0 0] 24)).alloc (.cells #[.int .i64 0, .slice none 0 0] 24)) (w.heap.size + 1) (.slice p1 l1.length cap1) from (((X1.below (below_alloc1 _ _)).below (below_alloc1 _ _)).below (below_alloc1 _ _)))
  have X2 : Bx (((w.alloc (.cells #[(.slice p0 l0.length cap0)] 22)).alloc (.cells #[(.slice p1 l1.length cap1)] 22)).alloc (.cells #[(.slice p2 l2.length cap2)] 22)) (w.heap.size + 1 + 1) (.slice p2 l2.length cap2) := by
    have q := heap_alloc_new ((w.alloc (.cells #[(.slice p0 l0.length cap0)] 22)).alloc (.cells #[(.slice p1 l1.length cap1)] 22)) (.cells #[(.slice p2 l2.length cap2)] 22)
    simp only [World.size_alloc] at q
    unfold Bx
    rw [cell_of_row _ _ 0 _ _ _ q]
    rfl
  have Y2 := hid (show Bx (((((w.alloc (.cells #[(.slice p0 l0.length cap0)] 22)).alloc (.cells #[(.slice p1 l1.length cap1)] 22)).alloc (.cells #[(.slice p2 l2.length cap2)] 22)).alloc (.cells #[.int .i64 0, .slice none 0 0] 24)).alloc (.cells #[.int .i64 0, .slice none 0 0] 24)) (w.heap.size + 1 + 1) (.slice p2 l2.length cap2) from ((X2.below (below_alloc1 _ _)).below (below_alloc1 _ _)))
  have VB := heap_alloc_new (((w.alloc (.cells #[(.slice p0 l0.length cap0)] 22)).alloc (.cells #[(.slice p1 l1.length cap1)] 22)).alloc (.cells #[(.slice p2 l2.length cap2)] 22)) (.cells #[.int .i64 0, .slice none 0 0] 24)
  simp only [World.size_alloc] at VB
  have BB : Below w.heap.size w ((((w.alloc (.cells #[(.slice p0 l0.length cap0)] 22)).alloc (.cells #[(.slice p1 l1.length cap1)] 22)).alloc (.cells #[(.slice p2 l2.length cap2)] 22)).alloc (.cells #[.int .i64 0, .slice none 0 0] 24)) := by repeat (first | exact Below.refl _ _ | refine Below.alloc ?_ (by simp; try omega) _)
  have C := HC (((((w.alloc (.cells #[(.slice p0 l0.length cap0)] 22)).alloc (.cells #[(.slice p1 l1.length cap1)] 22)).alloc (.cells #[(.slice p2 l2.length cap2)] 22)).alloc (.cells #[.int .i64 0, .slice none 0 0] 24)).alloc (.cells #[.int .i64 0, .slice none 0 0] 24)) (w.heap.size) (w.heap.size + 1) (w.heap.size + 1 + 1) _ _ _ Y0.out Y1.out Y2.out (h0.below BF) (h1.below BF) (h2.below BF)
  have FC := hid (face_ok 46 #[.pointer (some ⟨w.heap.size + 1, 0, none⟩), .pointer (some ⟨w.heap.size, 0, none⟩), .pointer (some ⟨w.heap.size + 1 + 1, 0, none⟩)] c l ((((w.alloc (.cells #[(.slice p0 l0.length cap0)] 22)).alloc (.cells #[(.slice p1 l1.length cap1)] 22)).alloc (.cells #[(.slice p2 l2.length cap2)] 22)).alloc (.cells #[.int .i64 0, .slice none 0 0] 24)) (fun w => run_enterStreamXor w _) (by
    have q := C
    simp only [World.size_alloc] at q ⊢
    exact q))
  have VH := hid VB
  have BH := hid BB
  clear C HC VB BB BF X0 X1 X2 Y0 Y1 Y2 h0 h1 h2
  go_enter Try.func18, Try.ntmps18
  go_wp2_with fail
  refine FC.out.mono ?_
  rintro e w1 ⟨r, rfl, O, hB⟩
  obtain ⟨q, cp, rfl, -, -, -⟩ := O.rd.parts
  have V := var_below hB VH.out
  have hz := var_lt VH.out
  have B1 := BH.out.trans (hB.mono BH.out.size)
  obtain ⟨f1, f2, f3, f4⟩ := var2_facts V
  have hset := hid (var2_set (x' := .int .i64 c) (y' := .slice q l.length cp) V)
  have hbel := hid (below_set2 (x := .int .i64 c) (y := .slice q l.length cp) B1 (show w.heap.size ≤ w.heap.size + 1 + 1 + 1 by omega))
  have hown := hid ((O.set2 (g := w.heap.size + 1 + 1 + 1) (x := .int .i64 c) (y := .slice q l.length cp) hz).mono (base' := w.heap.size) (BH.out.size))
  clear V B1 hB FC VH BH O
  go_wp2
  exact bodyPost_ret (v := .agg #[.int .i64 c, .slice q l.length cp]) (results_cell_row rfl _ _ (w.heap.size + 1 + 1 + 1) 24 _ _ _ rfl hset.out Try.underlying24 rfl (by kernel_rfl)) rfl ⟨_, rfl, hown.out, hbel.out⟩

set_option maxRecDepth 100000 in
theorem faceStreamXor_no (u : TypeId) (pv : Value) (l0 l1 l2 : List Nat) (v0 v1 v2 : Value) (w : World) (h0 : Rd w v0 l0) (h1 : Rd w v1 l1) (h2 : Rd w v2 l2)
    (HC : ∀ (w : World) (g0 g1 g2 : Nat) (v0 v1 v2 : Value), Bx w g0 v0 → Bx w g1 v1 → Bx w g2 v2 → Rd w v0 l0 → Rd w v1 l1 → Rd w v2 l2 → Calls Try.prog 46 #[.pointer (some ⟨g1, 0, none⟩), .pointer (some ⟨g0, 0, none⟩), .pointer (some ⟨g2, 0, none⟩)] w fun e w' => e = .panicked [{ v := .iface u pv, recovered := false }] ∧ Below w.heap.size w w') :
    Calls Try.prog 18 #[v0, v1, v2] w fun e w' => e = .returned (.agg #[.int .i64 2, .slice none 0 0]) ∧ Below w.heap.size w w' := by
  obtain ⟨p0, cap0, rfl, -, -, -⟩ := h0.parts
  obtain ⟨p1, cap1, rfl, -, -, -⟩ := h1.parts
  obtain ⟨p2, cap2, rfl, -, -, -⟩ := h2.parts
  have hmf : ∀ (fn : Fn) (first cap : Array Value) (w : World), (Instr.makeFunc fn first cap).run Try.prog w = .ok (.func fn first cap) w := fun _ _ _ _ => rfl
  have BF : Below w.heap.size w (((((w.alloc (.cells #[(.slice p0 l0.length cap0)] 22)).alloc (.cells #[(.slice p1 l1.length cap1)] 22)).alloc (.cells #[(.slice p2 l2.length cap2)] 22)).alloc (.cells #[.int .i64 0, .slice none 0 0] 24)).alloc (.cells #[.int .i64 0, .slice none 0 0] 24)) := by repeat (first | exact Below.refl _ _ | refine Below.alloc ?_ (by simp; try omega) _)
  have X0 : Bx (w.alloc (.cells #[(.slice p0 l0.length cap0)] 22)) (w.heap.size) (.slice p0 l0.length cap0) := by
    have q := heap_alloc_new w (.cells #[(.slice p0 l0.length cap0)] 22)
    unfold Bx
    rw [cell_of_row _ _ 0 _ _ _ q]
    rfl
  have Y0 := hid (show Bx (((((w.alloc (.cells #[(.slice p0 l0.length cap0)] 22)).alloc (.cells #[(.slice p1 l1.length cap1)] 22)).alloc (.cells #[(.slice p2 l2.length cap2)] 22)).alloc (.cells #[.int .i64 0, .slice none 0 0] 24)).alloc (.cells #[.int .i64 0, .slice none 0 0] 24)) (w.heap.size) (.slice p0 l0.length cap0) from ((((X0.below (below_alloc1 _ _)).below (below_alloc1 _ _)).below (below_alloc1 _ _)).below (below_alloc1 _ _)))
  have X1 : Bx ((w.alloc (.cells #[(.slice p0 l0.length cap0)] 22)).alloc (.cells #[(.slice p1 l1.length cap1)] 22)) (w.heap.size + 1) (.slice p1 l1.length cap1) := by
    have q := heap_alloc_new (w.alloc (.cells #[(.slice p0 l0.length cap0)] 22)) (.cells #[(.slice p1 l1.length cap1)] 22)
    simp only [World.size_alloc] at q
    unfold Bx
    rw [cell_of_row _ _ 0 _ _ _ q]
    rfl
  have Y1 := hid (show Bx (((((w.alloc (.cells #[(.slice p0 l0.length cap0)] 22)).alloc (.cells #[(.slice p1 l1.length cap1)] 22)).alloc (.cells #[(.slice p2 l2.length cap2)] 22)).alloc (.cells #[.int .i64 0, .slice none 0 0] 24)).alloc (.cells #[.int .i64 0, .slice none 0 0] 24)) (w.heap.size + 1) (.slice p1 l1.length cap1) from (((X1.below (below_alloc1 _ _)).below (below_alloc1 _ _)).below (below_alloc1 _ _)))
  have X2 : Bx (((w.alloc (.cells #[(.slice p0 l0.length cap0)] 22)).alloc (.cells #[(.slice p1 l1.length cap1)] 22)).alloc (.cells #[(.slice p2 l2.length cap2)] 22)) (w.heap.size + 1 + 1) (.slice p2 l2.length cap2) := by
    have q := heap_alloc_new ((w.alloc (.cells #[(.slice p0 l0.length cap0)] 22)).alloc (.cells #[(.slice p1 l1.length cap1)] 22)) (.cells #[(.slice p2 l2.length cap2)] 22)
    simp only [World.size_alloc] at q
    unfold Bx
    rw [cell_of_row _ _ 0 _ _ _ q]
    rfl
  have Y2 := hid (show Bx (((((w.alloc (.cells #[(.slice p0 l0.length cap0)] 22)).alloc (.cells #[(.slice p1 l1.length cap1)] 22)).alloc (.cells #[(.slice p2 l2.length cap2)] 22)).alloc (.cells #[.int .i64 0, .slice none 0 0] 24)).alloc (.cells #[.int .i64 0, .slice none 0 0] 24)) (w.heap.size + 1 + 1) (.slice p2 l2.length cap2) from ((X2.below (below_alloc1 _ _)).below (below_alloc1 _ _)))
  have VB := heap_alloc_new (((w.alloc (.cells #[(.slice p0 l0.length cap0)] 22)).alloc (.cells #[(.slice p1 l1.length cap1)] 22)).alloc (.cells #[(.slice p2 l2.length cap2)] 22)) (.cells #[.int .i64 0, .slice none 0 0] 24)
  simp only [World.size_alloc] at VB
  have BB : Below w.heap.size w ((((w.alloc (.cells #[(.slice p0 l0.length cap0)] 22)).alloc (.cells #[(.slice p1 l1.length cap1)] 22)).alloc (.cells #[(.slice p2 l2.length cap2)] 22)).alloc (.cells #[.int .i64 0, .slice none 0 0] 24)) := by repeat (first | exact Below.refl _ _ | refine Below.alloc ?_ (by simp; try omega) _)
  have C := HC (((((w.alloc (.cells #[(.slice p0 l0.length cap0)] 22)).alloc (.cells #[(.slice p1 l1.length cap1)] 22)).alloc (.cells #[(.slice p2 l2.length cap2)] 22)).alloc (.cells #[.int .i64 0, .slice none 0 0] 24)).alloc (.cells #[.int .i64 0, .slice none 0 0] 24)) (w.heap.size) (w.heap.size + 1) (w.heap.size + 1 + 1) _ _ _ Y0.out Y1.out Y2.out (h0.below BF) (h1.below BF) (h2.below BF)
  have FC := hid (face_no 46 #[.pointer (some ⟨w.heap.size + 1, 0, none⟩), .pointer (some ⟨w.heap.size, 0, none⟩), .pointer (some ⟨w.heap.size + 1 + 1, 0, none⟩)] u pv ((((w.alloc (.cells #[(.slice p0 l0.length cap0)] 22)).alloc (.cells #[(.slice p1 l1.length cap1)] 22)).alloc (.cells #[(.slice p2 l2.length cap2)] 22)).alloc (.cells #[.int .i64 0, .slice none 0 0] 24)) (fun w => run_enterStreamXor w _) (by
    have q := C
    simp only [World.size_alloc] at q ⊢
    exact q))
  have VH := hid VB
  have BH := hid BB
  clear C HC VB BB BF X0 X1 X2 Y0 Y1 Y2 h0 h1 h2
  go_enter Try.func18, Try.ntmps18
  go_wp2_with fail
  refine FC.out.mono ?_
  rintro e w1 ⟨rfl, hB⟩
  have V := var_below hB VH.out
  have hz := var_lt VH.out
  have B1 := BH.out.trans (hB.mono BH.out.size)
  obtain ⟨f1, f2, f3, f4⟩ := var2_facts V
  have hset := hid (var2_set (x' := .int .i64 2) (y' := .slice none 0 0) V)
  have hbel := hid (below_set2 (x := .int .i64 2) (y := .slice none 0 0) B1 (show w.heap.size ≤ w.heap.size + 1 + 1 + 1 by omega))
  clear V B1 hB FC VH BH
  go_wp2
  exact bodyPost_ret (v := .agg #[.int .i64 2, .slice none 0 0]) (results_cell_row rfl _ _ (w.heap.size + 1 + 1 + 1) 24 _ _ _ rfl hset.out Try.underlying24 rfl (by kernel_rfl)) rfl ⟨rfl, hbel.out⟩
end Go.Proofs.Ytckgjghpfjinfai.W

namespace Go.Proofs.Ytckgjghpfjinfai.W
open Go.ChangeShapes Go.WideShapes Go.ChangeAt Go.RowKit
open Go.Proofs.Ytckgjghpfjinfai.M

theorem isx (vk vb vd : Value) (k b d : List Nat) (w : World) (hk : Rd w vk k) (hb : Rd w vb b) (hd : Rd w vd d) (yk : Byt k) (yb : Byt b) (yd : Byt d) :
    Calls Try.prog 18 #[vk, vb, vd] w fun e w' => ∃ r, e = .returned (.agg #[.int .i64 (sxC k b d), r]) ∧ Owx w' w.heap.size r (sxB k b d) ∧ Below w.heap.size w w' := by
  by_cases h : sxOk k b d
  · rw [show sxC k b d = 0 by rw [sxC, if_pos h], show sxB k b d = strm (kf k) b d by rw [sxB, if_pos h]]
    exact faceStreamXor_ok 0 (strm (kf k) b d) k b d vk vb vd w hk hb hd (fun w g0 g1 g2 v0 v1 v2 x0 x1 x2 r0 r1 r2 => sx1_ok g0 g1 g2 v0 v1 v2 k b d w x0 x1 x2 r0 r1 r2 yk yb yd h.2.1 h.1 h.2.2)
  · rw [show sxC k b d = 2 by rw [sxC, if_neg h], show sxB k b d = [] by rw [sxB, if_neg h]]
    by_cases n2 : b.length = 16
    · by_cases n1 : k.length = 16
      · exact faceStreamXor_ok 2 [] k b d vk vb vd w hk hb hd (fun w g0 g1 g2 v0 v1 v2 x0 x1 x2 r0 r1 r2 => (sx1_many g0 g1 g2 v0 v1 v2 k b d w x0 x1 x2 r0 r1 r2 n2 n1 (by unfold sxOk at h; omega)).mono fun e w' ⟨he, hb⟩ => ⟨_, he, Owx.nil _ _, hb⟩)
      · exact faceStreamXor_ok 2 [] k b d vk vb vd w hk hb hd (fun w g0 g1 g2 v0 v1 v2 x0 x1 x2 r0 r1 r2 => (sx1_key g0 g1 g2 v0 v1 v2 k b d w x0 x1 x2 r0 r1 r2 n2 n1).mono fun e w' ⟨he, hb⟩ => ⟨_, he, Owx.nil _ _, hb⟩)
    · exact (faceStreamXor_no _ _ k b d vk vb vd w hk hb hd (fun w g0 g1 g2 v0 v1 v2 x0 x1 x2 r0 r1 r2 => sx1_no g0 g1 g2 v0 v1 v2 k b d w x0 x1 x2 r0 r1 r2 n2)).mono fun e w' ⟨he, hb⟩ => ⟨_, he, Owx.nil _ _, hb⟩
end Go.Proofs.Ytckgjghpfjinfai.W
