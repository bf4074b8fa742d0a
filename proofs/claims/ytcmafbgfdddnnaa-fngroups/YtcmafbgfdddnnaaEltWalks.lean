/-
  A block as a group element: the program's elementOf.
-/
import Derived.Test.YtcmafbgfdddnnaaElM
import Derived.Test.YtcmafbgfdddnnaaSlX
import Derived.Test.YtcmafbgfdddnnaaBlkSize
import Derived.StillTailTactics
namespace Go.Proofs.Ytcmafbgfdddnnaa.W
open Go.ChangeShapes Go.WideShapes Go.ChangeAt Go.RowKit
open Go.Proofs.Ytcmafbgfdddnnaa.M

theorem El.cell0 {w : World} {g : Nat} {p : Nat × Nat} (h : El w g p) : w.cell? ⟨g, 0, none⟩ = some (.int .u64 (p.1 : Int)) ∧ w.frozen? ⟨g, 0, none⟩ = false := ⟨by rw [cell_of_row w g 0 _ _ _ h]; rfl, frozen_of_row w g 0 _ _ h⟩
theorem El.cell1 {w : World} {g : Nat} {p : Nat × Nat} (h : El w g p) : w.cell? ⟨g, 1, none⟩ = some (.int .u64 (p.2 : Int)) ∧ w.frozen? ⟨g, 1, none⟩ = false := ⟨by rw [cell_of_row w g 1 _ _ _ h]; rfl, frozen_of_row w g 1 _ _ h⟩
theorem El.set0 {w : World} {g : Nat} {p : Nat × Nat} (h : El w g p) (x : Nat) : El (w.setCell ⟨g, 0, none⟩ (.int .u64 (x : Int))) g (x, p.2) := by
  have h1 := heap_setCell_same w g 0 _ _ (.int .u64 (x : Int)) h
  exact h1
theorem El.set1 {w : World} {g : Nat} {p : Nat × Nat} (h : El w g p) (x : Nat) : El (w.setCell ⟨g, 1, none⟩ (.int .u64 (x : Int))) g (p.1, x) := by
  have h1 := heap_setCell_same w g 1 _ _ (.int .u64 (x : Int)) h
  exact h1
theorem El.cfar {w : World} {g g' k : Nat} {p : Nat × Nat} (h : El w g p) (v : Value) (hne : g ≠ g') : El (w.setCell ⟨g', k, none⟩ v) g p := by
  unfold El
  rw [heap_setCell_other w ⟨g', k, none⟩ g v hne]
  exact h

theorem joinb (a x : Nat) (ha : a < 72057594037927936) (hx : x < 256) : bits .or .u64 (IntKind.u64.wrap ((a : Int) * 256)) (IntKind.u64.wrap (x : Int)) = ((a * 256 + x : Nat) : Int) := by
  rw [IntKind.wrap_u64, IntKind.wrap_u64, show ((a : Int) * 256) % 18446744073709551616 = ((a * 256 : Nat) : Int) by omega, show (x : Int) % 18446744073709551616 = (x : Int) by omega, u64_or_nat _ _ (by omega) (by omega), nat_join 8 (a * 256) x (by omega) hx]
set_option maxHeartbeats 1000000 in
set_option maxRecDepth 100000 in
theorem elemof (l : List Nat) (w : World) (hl : l.length = 16) (y : Byt l) :
    Calls Try.prog 92 #[.agg (arr l)] w fun e w' => e = .returned (.agg (ec (elt l))) ∧ Below w.heap.size w w' := by
  have HL := hid hl
  clear hl
  have A0 := (Ar.new w 76 l)
  have V1 := heap_alloc_new (w.alloc (.cells (arr l) 76)) (.cells (ec g0) 87)
  have V2 := heap_alloc_new ((w.alloc (.cells (arr l) 76)).alloc (.cells (ec g0) 87)) (.cells (ec g0) 87)
  simp only [World.size_alloc] at V1 V2
  have HA := hid ((A0.alloc (.cells (ec g0) 87)).alloc (.cells (ec g0) 87))
  have H1 := hid (show El _ _ _ from var_alloc (.cells (ec g0) 87) V1)
  have H2 := hid (show El _ _ _ from V2)
  have HB := hid (below_alloc3 w (.cells (arr l) 76) (.cells (ec g0) 87) (.cells (ec g0) 87))
  clear A0 V1 V2
  go_enter Try.func92, Try.ntmps92
  go_wp2_with fail
  go_loopw [4, 5] (fun i4 i5 ws => ∃ n : Nat, ∃ u : Value, n ≤ 8 ∧ i4 = u ∧ i5 = .int .i64 (n : Nat) ∧ Hid (Ar ws w.heap.size 76 l) ∧ Hid (El ws (w.heap.size + 1) g0) ∧ Hid (El ws (w.heap.size + 1 + 1) (hfN l 0 n, hfN l 8 n)) ∧ Hid (Below w.heap.size w ws)) (fun _ i5 _ => 8 - (intOf i5).toNat)
  case atStart => exact ⟨0, _, by omega, rfl, rfl, HA, H1, H2, HB⟩
  case round =>
    clear HA H1 H2 HB
    obtain ⟨n, u, hn, rfl, rfl, HA, H1, H2, HB⟩ := hrel
    by_cases hlt : n < 8
    · have c0 := H2.out.cell0
      have c1 := H2.out.cell1
      have d0 := HA.out.cell n (by rw [HL.out]; omega)
      have d1 := HA.out.cell (8 + n) (by rw [HL.out]; omega)
      obtain ⟨c0, f0⟩ := c0
      obtain ⟨c1, f1⟩ := c1
      simp only at c0 c1
      have n0 : (0 : Int) ≤ (n : Int) := by omega
      have n8 : (n : Int) < 8 := by omega
      have n16 : (n : Int) < 16 := by omega
      have b0 := gt_byt l y n
      have b1 := gt_byt l y (8 + n)
      have s0 := hf_small l y 0 n hlt
      have s1 := hf_small l y 8 n hlt
      have N0 := hid (show hfN l 0 (n + 1) = hfN l 0 n * 256 + gt l n by rw [hfN, Nat.zero_add])
      have N1 := hid (show hfN l 8 (n + 1) = hfN l 8 n * 256 + gt l (8 + n) from rfl)
      generalize hfN l 0 n = a at *
      generalize hfN l 8 n = b at *
      generalize gt l n = x at *
      have GZ := hid (rfl : gt l (8 + n) = gt l (8 + n))
      generalize hz : gt l (8 + n) = z at d1 b1 N1
      replace GZ := hid hz
      clear hz
      have e0 := joinb a x s0 b0
      have e1 := joinb b z s1 b1
      rw [← N0.out] at e0
      rw [← N1.out] at e1
      clear N0 N1
      have M0 := hid (rfl : hfN l 0 (n + 1) = hfN l 0 (n + 1))
      have M1 := hid (rfl : hfN l 8 (n + 1) = hfN l 8 (n + 1))
      generalize hm0 : hfN l 0 (n + 1) = m0 at e0
      generalize hm1 : hfN l 8 (n + 1) = m1 at e1
      replace M0 := hid hm0
      replace M1 := hid hm1
      clear hm0 hm1
      go_wp2_with fail
      refine wp_region_still_tail 9 (by kernel_rfl) (by kernel_rfl) ?_
      change wpStill _ _ (World.drew _) (fun a' => wpList _ _ _ _ a' (World.drew _)) _ _
      simp only [List.take_succ_cons, List.take_zero, List.drop_succ_cons, List.drop_zero]
      repeat still_step
      refine wpStill_nil ?_
      have K2 := hid (H2.out.set0 m0)
      have K1 := hid (H1.out.cfar (g' := w.heap.size + 1 + 1) (k := 0) (.int .u64 (m0 : Int)) (by omega))
      have KA := hid (HA.out.far (g' := w.heap.size + 1 + 1) (k := 0) (.int .u64 (m0 : Int)) (by omega))
      have KB := hid (HB.out.setCell (p := ⟨w.heap.size + 1 + 1, 0, none⟩) (by show w.heap.size ≤ w.heap.size + 1 + 1; omega) (.int .u64 (m0 : Int)))
      go_wp2_with fail
      clear c0 c1 f0 f1 d0 d1
      generalize wr.setCell ⟨w.heap.size + 1 + 1, 0, none⟩ (.int .u64 (m0 : Int)) = W at *
      obtain ⟨c1, f1⟩ := K2.out.cell1
      have d1 := KA.out.cell (8 + n) (by rw [HL.out]; omega)
      rw [GZ.out, show 8 + n = (8 + (n : Int)).toNat by omega] at d1
      simp only at c1
      have wn : IntKind.i64.wrap (8 + (n : Int)) = ((8 + n : Nat) : Int) := by rw [IntKind.wrap_i64]; omega
      have k0 : (0 : Int) ≤ 8 + (n : Int) := by omega
      have k1 : 8 + (n : Int) < 16 := by omega
      refine wp_region_still_tail 10 (by kernel_rfl) (by kernel_rfl) ?_
      change wpStill _ _ (World.drew _) (fun a' => wpList _ _ _ _ a' (World.drew _)) _ _
      simp only [List.take_succ_cons, List.take_zero, List.drop_succ_cons, List.drop_zero]
      repeat still_step
      refine wpStill_nil ?_
      have L2 := hid (K2.out.set1 m1)
      have L1 := hid (K1.out.cfar (g' := w.heap.size + 1 + 1) (k := 1) (.int .u64 (m1 : Int)) (by omega))
      have LA := hid (KA.out.far (g' := w.heap.size + 1 + 1) (k := 1) (.int .u64 (m1 : Int)) (by omega))
      have LB := hid (KB.out.setCell (p := ⟨w.heap.size + 1 + 1, 1, none⟩) (by show w.heap.size ≤ w.heap.size + 1 + 1; omega) (.int .u64 (m1 : Int)))
      go_wp2
      exact ⟨⟨n + 1, _, by omega, rfl, num_succ n, hid LA.out.drew.drew, hid L1.out.drew.drew, hid (by rw [M0.out, M1.out]; exact L2.out.drew.drew), hid LB.out.drew.drew⟩, by simp [intOf]; omega⟩
    · have hn8 : n = 8 := by omega
      subst hn8
      go_wp2_with (first | refine wpList_load_row rfl 87 _ rfl (w.heap.size + 1 + 1) rfl 87 (ec (elt l)) _ _ H2.out Try.underlying87 rfl (ec_size _) ?_ | refine wpList_store_row rfl 87 _ _ rfl (w.heap.size + 1) (ec (elt l)) rfl rfl 87 _ H1.out (ec_size _) rfl (ec_one _) ?_)
      exact bodyPost_ret (v := .agg (ec (elt l))) (results_cell_row rfl _ _ (w.heap.size + 1) 87 _ _ _ rfl (H1.out.row (q := elt l)) Try.underlying87 rfl (ec_size _)) rfl ⟨rfl, below_row HB.out (by omega) _⟩
end Go.Proofs.Ytcmafbgfdddnnaa.W
