/-
  Products of blocks: what the model's GroupTimes answers.
-/
import Derived.Test.YtcmafbgfdddnnaaL3tWalks
import Derived.Test.YtcmafbgfdddnnaaGtC
namespace Go.Proofs.Ytcmafbgfdddnnaa.W
open Go.ChangeShapes Go.WideShapes Go.ChangeAt Go.RowKit
open Go.Proofs.Ytcmafbgfdddnnaa.M

set_option maxRecDepth 100000 in
theorem sgt_ok (va vb : Value) (la lb : List Nat) (w : World) (ha : Rd w va la) (hb : Rd w vb lb) (ya : Byt la) (yb : Byt lb) (na : la.length = 16) (nb : lb.length = 16) :
    Calls Try.prog 53 #[va, vb] w fun e w' => ∃ r, e = .returned (.agg #[.int .i64 0, r]) ∧ Owx w' w.heap.size r (gtm la lb) ∧ Below w.heap.size w w' := by
  obtain ⟨b1, o1, cap1, rfl, -, -⟩ := ha.spot (by omega)
  obtain ⟨b2, o2, cap2, rfl, -, -⟩ := hb.spot (by omega)
  have H1 := hid na
  have H2 := hid nb
  rw [na] at ha
  rw [nb] at hb
  rw [na, nb]
  have A := hid (ha.below (below_alloc1 w (.cells #[.int .i64 0, .slice none 0 0] 33)))
  have D := hid (hb.below (below_alloc1 w (.cells #[.int .i64 0, .slice none 0 0] 33)))
  clear ha hb na nb
  go_enter Try.func53, Try.ntmps53
  go_wp2_with fail
  refine (l3times _ _ la lb _ A.out D.out ya yb H1.out H2.out).mono ?_
  rintro e w1 ⟨rfl, O, B1⟩
  simp only [World.size_alloc] at O
  have hv := var_below B1 (heap_alloc_new w (.cells #[.int .i64 0, .slice none 0 0] 33))
  have hB3 := (below_alloc1 w (.cells #[.int .i64 0, .slice none 0 0] 33)).trans (B1.mono (by simp))
  obtain ⟨f1, f2, f3, f4⟩ := var2_facts hv
  have hset := hid (var2_set (x' := .int .i64 0) (y' := .slice (some ⟨w.heap.size + 1, 0, none⟩) 16 16) hv)
  have hbel := hid (below_set2 (x := .int .i64 0) (y := .slice (some ⟨w.heap.size + 1, 0, none⟩) 16 16) hB3 (Nat.le_refl _))
  have hown := hid ((O.set2 (g := w.heap.size) (x := .int .i64 0) (y := .slice (some ⟨w.heap.size + 1, 0, none⟩) 16 16) (by omega)).mono (base' := w.heap.size) (by omega)).x
  clear hv O B1 hB3 A D
  go_wp2
  exact bodyPost_ret (v := .agg #[.int .i64 0, .slice (some ⟨w.heap.size + 1, 0, none⟩) 16 16]) (results_cell_row rfl _ _ w.heap.size 33 _ _ _ rfl hset.out Try.underlying33 rfl (by kernel_rfl)) rfl ⟨_, rfl, hown.out, hbel.out⟩

set_option maxRecDepth 100000 in
theorem sgt_no (vk vb : Value) (k l : List Nat) (w : World) (hk : Rd w vk k) (hb : Rd w vb l) (h : ¬ (k.length = 16 ∧ l.length = 16)) :
    Calls Try.prog 53 #[vk, vb] w fun e w' => e = .returned (.agg #[.int .i64 2, .slice none 0 0]) ∧ Below w.heap.size w w' := by
  obtain ⟨p1, cap1, rfl, -, -, -⟩ := hk.parts
  obtain ⟨p2, cap2, rfl, -, -, -⟩ := hb.parts
  clear hk hb
  by_cases h1 : k.length = 16
  · have n1 : ((k.length : Int) != 16) = false := by rw [h1]; rfl
    have n2 : ((l.length : Int) != 16) = true := by rw [bne_iff_ne]; omega
    have H := hid h1
    clear h1 h
    go_enter Try.func53, Try.ntmps53
    go_wp2
    exact bodyPost_ret (v := .agg #[.int .i64 2, .slice none 0 0]) (by simp [results, Try.results53, go_sem]) rfl ⟨rfl, below_alloc1 w _⟩
  · have n1 : ((k.length : Int) != 16) = true := by rw [bne_iff_ne]; omega
    clear h1 h
    go_enter Try.func53, Try.ntmps53
    go_wp2
    exact bodyPost_ret (v := .agg #[.int .i64 2, .slice none 0 0]) (by simp [results, Try.results53, go_sem]) rfl ⟨rfl, below_alloc1 w _⟩

theorem sgt (va vb : Value) (a b : List Nat) (w : World) (ha : Rd w va a) (hb : Rd w vb b) (ya : Byt a) (yb : Byt b) :
    Calls Try.prog 53 #[va, vb] w fun e w' => ∃ r, e = .returned (.agg #[.int .i64 (gtC a b), r]) ∧ Owx w' w.heap.size r (gtB a b) ∧ Below w.heap.size w w' := by
  by_cases h : a.length = 16 ∧ b.length = 16
  · rw [show gtC a b = 0 by rw [gtC, if_pos h], show gtB a b = gtm a b by rw [gtB, if_pos h]]
    exact sgt_ok va vb a b w ha hb ya yb h.1 h.2
  · rw [show gtC a b = 2 by rw [gtC, if_neg h], show gtB a b = [] by rw [gtB, if_neg h]]
    exact (sgt_no va vb a b w ha hb h).mono fun e w' ⟨he, hb⟩ => ⟨_, he, Owx.nil _ _, hb⟩
end Go.Proofs.Ytcmafbgfdddnnaa.W
