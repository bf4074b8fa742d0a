/-
  How the exact laws measure, copy and compare slices of claims.
-/
import Derived.Test.YtemkokgejohlbaaVwD
import Derived.Test.YtemkokgejohlbaaClfT
namespace Go.Proofs.Ytemkokgejohlbaa.W
open Go.ChangeShapes Go.WideShapes Go.ChangeAt Go.RowKit
open Go.Proofs.Ytemkokgejohlbaa.M

theorem idx_cl (b o n c j : Nat) (hj : j < n) (w : World) : (Instr.indexAt 22 (.slice (some ⟨b, o, none⟩) n c) (.int .i64 (j : Int))).run Try.prog w = .ok (.pointer (some ⟨b, o + j * 4, none⟩)) w := by
  have hs : ∀ w : World, (sizeOf (Try.prog.elem 22)).run Try.prog w = .ok 4 w := fun _ => by kernel_rfl
  rw [run_indexAt_slice (P := Try.prog) w 22 _ n c .i64 (j : Int) (by kernel_rfl)]
  simp [hs, hj, Result.andThen, Addr.add_lit]
/-- What is left of so much behind n claims; -1 where there is not so much. -/
def szC (left : Int) (n : Nat) : Int := if left < n then -1 else left - n
set_option maxRecDepth 100000 in
theorem szCS (v : Value) (cs : List Clm) (left : Int) (w : World) (h : RdC w v cs) (h0 : 0 ≤ left) (h1 : left ≤ 1048576) :
    Calls Try.prog 4 #[v, .int .i64 left] w fun e w' => e = .returned (.int .i64 (szC left cs.length)) ∧ Below w.heap.size w w' := by
  obtain ⟨a, cap, rfl, hc, hm, -⟩ := h.parts
  clear h
  unfold maxLen at hm
  by_cases hl : left - cs.length < 0
  · rw [show szC left cs.length = -1 by rw [szC, if_pos (by omega)]]
    go_enter Try.func4, Try.ntmps4
    go_wp2
    go_ret
    exact ⟨rfl, Below.refl _ _⟩
  · rw [show szC left cs.length = left - cs.length by rw [szC, if_neg (by omega)]]
    go_enter Try.func4, Try.ntmps4
    go_wp2
    go_ret
    exact ⟨rfl, Below.refl _ _⟩
theorem oc_made {w w0 : World} {n : Nat} (h : w0.ownsRow w.heap.size 39 4 (.slice (some ⟨w.heap.size, 0, none⟩) n n) n (madeCells (Value.agg #[.int .i64 0, .int .i64 0, .int .i64 0, .int .i64 0]).cells (n * 4)).toList) :
    OwC w0 w.heap.size (.slice (some ⟨w.heap.size, 0, none⟩) n n) (List.replicate n zC) := by
  rw [made4] at h
  unfold OwC
  rw [List.length_replicate]
  exact h
set_option maxHeartbeats 2000000 in
set_option maxRecDepth 100000 in
theorem toCS (v : Value) (cs : List Clm) (w : World) (h : RdC w v cs) (hl : cs.length ≤ 1048576) :
    Calls Try.prog 6 #[v] w fun e w' => ∃ g, e = .returned (.slice (some ⟨g, 0, none⟩) cs.length cs.length) ∧ OC w' w.heap.size w'.heap.size (.slice (some ⟨g, 0, none⟩) cs.length cs.length) cs ∧ Below w.heap.size w w' := by
  have H := hid h
  obtain ⟨a, cap, rfl, hc, hm, -⟩ := h.parts
  clear h
  obtain ⟨i0, hi, hz0, hz1, hz2⟩ := info_parts infoC
  go_enter Try.func6, Try.ntmps6
  go_wp2_with (at_make; refine wpList_make_full _ rfl _ _ 28 rfl w.heap.size 39 i0 (.agg #[.int .i64 0, .int .i64 0, .int .i64 0, .int .i64 0]) 4 Try.underlying28 hi hz0 hz1 .i64 .i64 _ _ cs.length rfl rfl rfl rfl (by rw [hz2]; omega) (by unfold maxLen; omega) (Nat.le_refl _) ?_)
  intro w0 hown0 hgrow0
  have F0 : Hid (OwC w0 w.heap.size (.slice (some ⟨w.heap.size, 0, none⟩) cs.length cs.length) (tkC cs 0)) := hid (by simpa [tkC] using oc_made hown0)
  have B0 := hid (below_of_grown hgrow0 (Nat.le_refl _) (fun k hk => by simp at hk))
  clear hown0 hgrow0 hi hz0 hz1 hz2
  go_wp2_with fail
  go_loopw [4] (fun i wr => ∃ k : Nat, k ≤ cs.length ∧ i = .int .i64 k ∧ Hid (OwC wr w.heap.size (.slice (some ⟨w.heap.size, 0, none⟩) cs.length cs.length) (tkC cs k)) ∧ Hid (Below w.heap.size w wr)) (fun i _ => cs.length - (intOf i).toNat)
  case atStart => exact ⟨0, by omega, rfl, F0, B0⟩
  case round =>
    obtain ⟨k, hk, rfl, FL, BL⟩ := hrel
    clear F0 B0
    by_cases hlt : k < cs.length
    · obtain ⟨a', cap', e, -, -, hcs⟩ := (H.out.below BL.out).parts
      cases e
      obtain ⟨b, o, rfl, q1⟩ := hcs k hlt
      obtain ⟨c0, c1, c2, c3⟩ := c_cells q1
      have I1 := idx_cl b o cs.length cap k hlt
      have I2 := idx_ci w.heap.size 0 cs.length cs.length k hlt
      rw [Nat.zero_add] at I2
      have k0 : (0 : Int) ≤ (k : Int) := by omega
      have k1 : (k : Int) < (cs.length : Int) := by omega
      have TS := hid (tkC_set cs k hlt)
      have TL := hid (tkC_len cs k hk)
      obtain ⟨M, hM⟩ : ∃ M, M = cs[k] := ⟨_, rfl⟩
      rw [← hM] at c0 c1 c2 c3 TS
      clear q1 hcs hM
      go_wp2_with fail
      refine (tocl _ _ _ _ _).mono ?_
      rintro e w1 ⟨rfl, hB⟩
      have FN := hid ((FL.out.below hB).put TL.out k (by rw [TL.out]; exact hlt) M)
      rw [TS.out] at FN
      obtain ⟨d, fz⟩ := (FL.out.below hB).open TL.out k (by rw [TL.out]; exact hlt)
      obtain ⟨d0, d1, d2, d3⟩ := c_cells d
      have z0 := fz (k * 4)
      have z1 := fz (k * 4 + 1)
      have z2 := fz (k * 4 + 2)
      have z3 := fz (k * 4 + 3)
      have BN := hid (show Below w.heap.size w (st4 w1 w.heap.size (k * 4) M) from (BL.out.trans (hB.mono BL.out.size)).grown (st4_grown w1 w.heap.size (k * 4) M) (BL.out.trans (hB.mono BL.out.size)).size (fun b e => by cases e; exact Nat.le_refl _))
      unfold st4 at FN BN
      clear hB FL BL d fz c0 c1 c2 c3
      go_wp2
      go_roundw
      case rel => exact ⟨k + 1, hlt, by go_num, FN, BN⟩
      case measure => simp [intOf]; omega
    · have hke : k = cs.length := by omega
      subst hke
      rw [tkC_end] at FL
      go_wp2
      go_ret
      exact ⟨_, rfl, OC.of FL.out, BL.out⟩
set_option maxHeartbeats 1000000 in
set_option maxRecDepth 100000 in
theorem eqcl (a b c d : Int) (w : World) :
    Calls Try.prog 21 #[.agg #[.int .i64 a, .int .i64 b, .int .i64 c, .int .i64 d], .agg #[.int .i64 a, .int .i64 b, .int .i64 c, .int .i64 d]] w fun e w' => e = .returned (.bool true) ∧ Below w.heap.size w w' := by
  go_enter Try.func21, Try.ntmps21
  go_wp2
  go_ret
  exact ⟨rfl, below_alloc2 w _ _⟩
end Go.Proofs.Ytemkokgejohlbaa.W
