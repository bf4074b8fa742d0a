/-
  The hash of blocks: what the model's HashAll answers.
-/
import Derived.Test.YtcmafbgfdddnnaaL3hWalks
import Derived.Test.YtcmafbgfdddnnaaHaC
namespace Go.Proofs.Ytcmafbgfdddnnaa.W
open Go.ChangeShapes Go.WideShapes Go.ChangeAt Go.RowKit
open Go.Proofs.Ytcmafbgfdddnnaa.M

set_option maxRecDepth 100000 in
theorem sha_no (vh vd : Value) (h d : List Nat) (w : World) (hh : Rd w vh h) (hd : Rd w vd d) (n1 : h.length ≠ 16) :
    Calls Try.prog 54 #[vh, vd] w fun e w' => e = .returned (.agg #[.int .i64 2, .slice none 0 0]) ∧ Below w.heap.size w w' := by
  obtain ⟨p1, cap1, rfl, -, -, -⟩ := hh.parts
  obtain ⟨p2, cap2, rfl, -, -, -⟩ := hd.parts
  clear hh hd
  have c1 : ((h.length : Int) != 16) = true := by rw [bne_iff_ne]; omega
  clear n1
  go_enter Try.func54, Try.ntmps54
  go_wp2
  exact bodyPost_ret (v := .agg #[.int .i64 2, .slice none 0 0]) (by simp [results, Try.results54, go_sem]) rfl ⟨rfl, below_alloc1 w _⟩

set_option maxRecDepth 100000 in
theorem sha_many (vh vd : Value) (h d : List Nat) (w : World) (hh : Rd w vh h) (hd : Rd w vd d) (n1 : h.length = 16) (n2 : 800 < d.length) :
    Calls Try.prog 54 #[vh, vd] w fun e w' => e = .returned (.agg #[.int .i64 2, .slice none 0 0]) ∧ Below w.heap.size w w' := by
  obtain ⟨p1, cap1, rfl, -, -, -⟩ := hh.parts
  obtain ⟨p2, cap2, rfl, -, -, -⟩ := hd.parts
  clear hh hd
  have c1 : ((h.length : Int) != 16) = false := by rw [n1]; rfl
  have c2 : (800 : Int) < (d.length : Int) := by omega
  replace n1 := hid n1
  clear n2
  go_enter Try.func54, Try.ntmps54
  go_wp2
  exact bodyPost_ret (v := .agg #[.int .i64 2, .slice none 0 0]) (by simp [results, Try.results54, go_sem]) rfl ⟨rfl, below_alloc1 w _⟩

set_option maxRecDepth 100000 in
theorem sha_form (vh vd : Value) (h d : List Nat) (w : World) (hh : Rd w vh h) (hd : Rd w vd d) (n1 : h.length = 16) (n2 : d.length ≤ 800) (n3 : d.length % 16 ≠ 0) :
    Calls Try.prog 54 #[vh, vd] w fun e w' => e = .returned (.agg #[.int .i64 1, .slice none 0 0]) ∧ Below w.heap.size w w' := by
  obtain ⟨p1, cap1, rfl, -, -, -⟩ := hh.parts
  obtain ⟨p2, cap2, rfl, -, -, -⟩ := hd.parts
  clear hh hd
  have c1 : ((h.length : Int) != 16) = false := by rw [n1]; rfl
  have c2 : ¬ (800 : Int) < (d.length : Int) := by omega
  have c3 : ((d.length : Int) % 16 != 0) = true := by rw [bne_iff_ne]; omega
  replace n1 := hid n1
  go_enter Try.func54, Try.ntmps54
  go_wp2
  exact bodyPost_ret (v := .agg #[.int .i64 1, .slice none 0 0]) (by simp [results, Try.results54, go_sem]) rfl ⟨rfl, below_alloc1 w _⟩

set_option maxRecDepth 100000 in
theorem sha_ok (vh vd : Value) (h d : List Nat) (w : World) (hh : Rd w vh h) (hd : Rd w vd d) (yh : Byt h) (yd : Byt d) (n1 : h.length = 16) (n2 : d.length ≤ 800) (n3 : d.length % 16 = 0) :
    Calls Try.prog 54 #[vh, vd] w fun e w' => ∃ r, e = .returned (.agg #[.int .i64 0, r]) ∧ Owx w' w.heap.size r (hshB h d) ∧ Below w.heap.size w w' := by
  obtain ⟨p1, cap1, rfl, -, -, -⟩ := hh.parts
  obtain ⟨p2, cap2, rfl, -, -, -⟩ := hd.parts
  have A := hid (hh.below (below_alloc1 w (.cells #[.int .i64 0, .slice none 0 0] 33)))
  have D := hid (hd.below (below_alloc1 w (.cells #[.int .i64 0, .slice none 0 0] 33)))
  have c1 : ((h.length : Int) != 16) = false := by rw [n1]; rfl
  have c2 : ¬ (800 : Int) < (d.length : Int) := by omega
  have c3 : ((d.length : Int) % 16 != 0) = false := by rw [bne_eq_false_iff_eq]; omega
  have N1 := hid n1
  have N2 := hid n2
  clear hh hd n1 n2 n3
  go_enter Try.func54, Try.ntmps54
  go_wp2_with fail
  refine (l3hash _ _ h d _ A.out D.out yh yd N1.out (by have := N2.out; omega)).mono ?_
  rintro e w1 ⟨g, rfl, O, B1⟩
  simp only [World.size_alloc] at O
  have hv := var_below B1 (heap_alloc_new w (.cells #[.int .i64 0, .slice none 0 0] 33))
  have hB3 := (below_alloc1 w (.cells #[.int .i64 0, .slice none 0 0] 33)).trans (B1.mono (by simp))
  obtain ⟨f1, f2, f3, f4⟩ := var2_facts hv
  have hset := hid (var2_set (x' := .int .i64 0) (y' := .slice (some ⟨g, 0, none⟩) 16 16) hv)
  have hbel := hid (below_set2 (x := .int .i64 0) (y := .slice (some ⟨g, 0, none⟩) 16 16) hB3 (Nat.le_refl _))
  have hown := hid ((O.set2 (g := w.heap.size) (x := .int .i64 0) (y := .slice (some ⟨g, 0, none⟩) 16 16) (by omega)).mono (base' := w.heap.size) (by omega)).x
  clear hv O B1 hB3 A D
  go_wp2
  exact bodyPost_ret (v := .agg #[.int .i64 0, .slice (some ⟨g, 0, none⟩) 16 16]) (results_cell_row rfl _ _ w.heap.size 33 _ _ _ rfl hset.out Try.underlying33 rfl (by kernel_rfl)) rfl ⟨_, rfl, hown.out, hbel.out⟩

theorem sha (vh vd : Value) (h d : List Nat) (w : World) (hh : Rd w vh h) (hd : Rd w vd d) (yh : Byt h) (yd : Byt d) :
    Calls Try.prog 54 #[vh, vd] w fun e w' => ∃ r, e = .returned (.agg #[.int .i64 (haC h d), r]) ∧ Owx w' w.heap.size r (haB h d) ∧ Below w.heap.size w w' := by
  by_cases n1 : h.length = 16
  · by_cases n2 : d.length ≤ 800
    · have e1 : ¬ (h.length ≠ 16 ∨ 800 < d.length) := by omega
      by_cases n3 : d.length % 16 = 0
      · rw [show haC h d = 0 by rw [haC, if_neg e1, if_neg (by omega)], show haB h d = hshB h d by rw [haB, if_neg e1, if_neg (by omega)]]
        exact sha_ok vh vd h d w hh hd yh yd n1 n2 n3
      · rw [show haC h d = 1 by rw [haC, if_neg e1, if_pos n3], show haB h d = [] by rw [haB, if_neg e1, if_pos n3]]
        exact (sha_form vh vd h d w hh hd n1 n2 n3).mono fun e w' ⟨he, hb⟩ => ⟨_, he, Owx.nil _ _, hb⟩
    · have e1 : h.length ≠ 16 ∨ 800 < d.length := by omega
      rw [show haC h d = 2 by rw [haC, if_pos e1], show haB h d = [] by rw [haB, if_pos e1]]
      exact (sha_many vh vd h d w hh hd n1 (by omega)).mono fun e w' ⟨he, hb⟩ => ⟨_, he, Owx.nil _ _, hb⟩
  · rw [show haC h d = 2 by rw [haC, if_pos (.inl n1)], show haB h d = [] by rw [haB, if_pos (.inl n1)]]
    exact (sha_no vh vd h d w hh hd n1).mono fun e w' ⟨he, hb⟩ => ⟨_, he, Owx.nil _ _, hb⟩
end Go.Proofs.Ytcmafbgfdddnnaa.W
