/-
  What is hidden: what the model's StreamXor answers.
-/
import Derived.Test.YtckgjghpfjinfaiL3sWalks
import Derived.Test.YtckgjghpfjinfaiL2kWalks
import Derived.Test.YtckgjghpfjinfaiSxC
namespace Go.Proofs.Ytckgjghpfjinfai.W
open Go.ChangeShapes Go.WideShapes Go.ChangeAt Go.RowKit
open Go.Proofs.Ytckgjghpfjinfai.M

set_option maxRecDepth 100000 in
theorem ssx_k (vk vb vd : Value) (k b d : List Nat) (w : World) (hk : Rd w vk k) (hb : Rd w vb b) (hd : Rd w vd d) (n1 : k.length ≠ 16) :
    Calls Try.prog 17 #[vk, vb, vd] w fun e w' => e = .returned (.agg #[.int .i64 2, .slice none 0 0]) ∧ Below w.heap.size w w' := by
  obtain ⟨p1, cap1, rfl, -, -, -⟩ := hk.parts
  obtain ⟨p2, cap2, rfl, -, -, -⟩ := hb.parts
  obtain ⟨p3, cap3, rfl, -, -, -⟩ := hd.parts
  clear hk hb hd
  have c1 : ((k.length : Int) != 16) = true := by rw [bne_iff_ne]; omega
  clear n1
  go_enter Try.func17, Try.ntmps17
  go_wp2
  exact bodyPost_ret (v := .agg #[.int .i64 2, .slice none 0 0]) (by simp [results, Try.results17, go_sem]) rfl ⟨rfl, below_alloc1 w _⟩

set_option maxRecDepth 100000 in
theorem ssx_b (vk vb vd : Value) (k b d : List Nat) (w : World) (hk : Rd w vk k) (hb : Rd w vb b) (hd : Rd w vd d) (n1 : k.length = 16) (n2 : b.length ≠ 16) :
    Calls Try.prog 17 #[vk, vb, vd] w fun e w' => e = .returned (.agg #[.int .i64 2, .slice none 0 0]) ∧ Below w.heap.size w w' := by
  obtain ⟨p1, cap1, rfl, -, -, -⟩ := hk.parts
  obtain ⟨p2, cap2, rfl, -, -, -⟩ := hb.parts
  obtain ⟨p3, cap3, rfl, -, -, -⟩ := hd.parts
  clear hk hb hd
  have c1 : ((k.length : Int) != 16) = false := by rw [n1]; rfl
  have c2 : ((b.length : Int) != 16) = true := by rw [bne_iff_ne]; omega
  replace n1 := hid n1
  clear n2
  go_enter Try.func17, Try.ntmps17
  go_wp2
  exact bodyPost_ret (v := .agg #[.int .i64 2, .slice none 0 0]) (by simp [results, Try.results17, go_sem]) rfl ⟨rfl, below_alloc1 w _⟩

set_option maxRecDepth 100000 in
theorem ssx_d (vk vb vd : Value) (k b d : List Nat) (w : World) (hk : Rd w vk k) (hb : Rd w vb b) (hd : Rd w vd d) (n1 : k.length = 16) (n2 : b.length = 16) (n3 : 600 < d.length) :
    Calls Try.prog 17 #[vk, vb, vd] w fun e w' => e = .returned (.agg #[.int .i64 2, .slice none 0 0]) ∧ Below w.heap.size w w' := by
  obtain ⟨p1, cap1, rfl, -, -, -⟩ := hk.parts
  obtain ⟨p2, cap2, rfl, -, -, -⟩ := hb.parts
  obtain ⟨p3, cap3, rfl, -, -, -⟩ := hd.parts
  clear hk hb hd
  have c1 : ((k.length : Int) != 16) = false := by rw [n1]; rfl
  have c2 : ((b.length : Int) != 16) = false := by rw [n2]; rfl
  have c3 : (600 : Int) < (d.length : Int) := by omega
  replace n1 := hid n1
  replace n2 := hid n2
  clear n3
  go_enter Try.func17, Try.ntmps17
  go_wp2
  exact bodyPost_ret (v := .agg #[.int .i64 2, .slice none 0 0]) (by simp [results, Try.results17, go_sem]) rfl ⟨rfl, below_alloc1 w _⟩

set_option maxRecDepth 100000 in
theorem ssx_ok (vk vb vd : Value) (k b d : List Nat) (w : World) (hk : Rd w vk k) (hb : Rd w vb b) (hd : Rd w vd d) (yk : Byt k) (yb : Byt b) (yd : Byt d) (n1 : k.length = 16) (n2 : b.length = 16) (n3 : d.length ≤ 600) :
    Calls Try.prog 17 #[vk, vb, vd] w fun e w' => ∃ r, e = .returned (.agg #[.int .i64 0, r]) ∧ Owx w' w.heap.size r (strm (kf k) b d) ∧ Below w.heap.size w w' := by
  obtain ⟨p1, cap1, rfl, -, -, -⟩ := hk.parts
  obtain ⟨p2, cap2, rfl, -, -, -⟩ := hb.parts
  obtain ⟨p3, cap3, rfl, -, -, -⟩ := hd.parts
  have A := hid (hk.below (below_alloc1 w (.cells #[.int .i64 0, .slice none 0 0] 24)))
  have B := hid (hb.below (below_alloc1 w (.cells #[.int .i64 0, .slice none 0 0] 24)))
  have D := hid (hd.below (below_alloc1 w (.cells #[.int .i64 0, .slice none 0 0] 24)))
  have c1 : ((k.length : Int) != 16) = false := by rw [n1]; rfl
  have c2 : ((b.length : Int) != 16) = false := by rw [n2]; rfl
  have c3 : ¬ (600 : Int) < (d.length : Int) := by omega
  have N1 := hid n1
  have N2 := hid n2
  have N3 := hid n3
  clear hk hb hd n1 n2 n3
  go_enter Try.func17, Try.ntmps17
  go_wp2_with fail
  refine (l2keys _ k _ A.out yk N1.out).mono ?_
  rintro e w1 ⟨rfl, K1, B1⟩
  simp only [World.size_alloc] at K1
  replace K1 := hid K1
  replace B := hid (B.out.below B1)
  replace D := hid (D.out.below B1)
  have V1 := hid (var_below B1 (heap_alloc_new w (.cells #[.int .i64 0, .slice none 0 0] 24)))
  have BX := hid ((below_alloc1 w (.cells #[.int .i64 0, .slice none 0 0] 24)).trans (B1.mono (by simp)))
  clear B1 A
  go_wp2_with fail
  refine (l3stream _ (kf k) _ _ b d _ K1.out (kf_lt k yk) B.out N2.out yb D.out yd (by have := N3.out; omega)).mono ?_
  rintro e w2 ⟨v, rfl, O, B2⟩
  obtain ⟨q, c, rfl, -, -, -⟩ := O.rd.parts
  have hz := var_lt V1.out
  have hv := var_below B2 V1.out
  have hB3 := BX.out.trans (B2.mono BX.out.size)
  obtain ⟨f1, f2, f3, f4⟩ := var2_facts hv
  have hset := hid (var2_set (x' := .int .i64 0) (y' := .slice q (strm (kf k) b d).length c) hv)
  have hbel := hid (below_set2 (x := .int .i64 0) (y := .slice q (strm (kf k) b d).length c) hB3 (Nat.le_refl _))
  have hown := hid ((O.set2 (g := w.heap.size) (x := .int .i64 0) (y := .slice q (strm (kf k) b d).length c) hz).mono (base' := w.heap.size) (BX.out.size)).x
  clear hv O B2 hB3 B D K1 V1 BX
  go_wp2
  exact bodyPost_ret (v := .agg #[.int .i64 0, .slice q (strm (kf k) b d).length c]) (results_cell_row rfl _ _ w.heap.size 24 _ _ _ rfl hset.out Try.underlying24 rfl (by kernel_rfl)) rfl ⟨_, rfl, hown.out, hbel.out⟩

theorem ssx (vk vb vd : Value) (k b d : List Nat) (w : World) (hk : Rd w vk k) (hb : Rd w vb b) (hd : Rd w vd d) (yk : Byt k) (yb : Byt b) (yd : Byt d) :
    Calls Try.prog 17 #[vk, vb, vd] w fun e w' => ∃ r, e = .returned (.agg #[.int .i64 (sxC k b d), r]) ∧ Owx w' w.heap.size r (sxB k b d) ∧ Below w.heap.size w w' := by
  by_cases h : sxOk k b d
  · rw [show sxC k b d = 0 by rw [sxC, if_pos h], show sxB k b d = strm (kf k) b d by rw [sxB, if_pos h]]
    exact ssx_ok vk vb vd k b d w hk hb hd yk yb yd h.1 h.2.1 h.2.2
  · rw [show sxC k b d = 2 by rw [sxC, if_neg h], show sxB k b d = [] by rw [sxB, if_neg h]]
    by_cases n1 : k.length = 16
    · by_cases n2 : b.length = 16
      · exact (ssx_d vk vb vd k b d w hk hb hd n1 n2 (by unfold sxOk at h; omega)).mono fun e w' ⟨he, hb⟩ => ⟨_, he, Owx.nil _ _, hb⟩
      · exact (ssx_b vk vb vd k b d w hk hb hd n1 n2).mono fun e w' ⟨he, hb⟩ => ⟨_, he, Owx.nil _ _, hb⟩
    · exact (ssx_k vk vb vd k b d w hk hb hd n1).mono fun e w' ⟨he, hb⟩ => ⟨_, he, Owx.nil _ _, hb⟩
end Go.Proofs.Ytckgjghpfjinfai.W
