/-
  The whole box: what the program's makeBox answers.
-/
import Derived.Test.YtckgjghpfjinfaiArrIx
import Derived.Test.YtckgjghpfjinfaiTpWalks
import Derived.Test.YtckgjghpfjinfaiBoiWalks
namespace Go.Proofs.Ytckgjghpfjinfai.W
open Go.ChangeShapes Go.WideShapes Go.ChangeAt Go.RowKit
open Go.Proofs.Ytckgjghpfjinfai.M

theorem zero_box : ∀ w : World, (zeroValue 106).run Try.prog w = .ok (.agg (arr (zs 256))) w :=
  (zero_of_info (P := Try.prog) (t := 106) (v := .agg (arr (zs 256))) (n := 256) (by kernel_rfl)).1
theorem zero_pws : ∀ w : World, (zeroValue 136).run Try.prog w = .ok (.agg (arr (zs 255))) w :=
  (zero_of_info (P := Try.prog) (t := 136) (v := .agg (arr (zs 255))) (n := 255) (by kernel_rfl)).1

theorem boi0 (w : World) :
    Calls Try.prog 99 #[.int .u8 0] w fun e w' => e = .returned (.int .u8 (bi 0 : Nat)) ∧ w' = w := boi 0 (by omega) w

set_option maxRecDepth 100000 in
theorem mkbox (w : World) :
    Calls Try.prog 77 #[] w fun e w' => e = .returned (.agg (arr boxL)) ∧ Below w.heap.size w w' := by
  have hz1 := zero_box
  have hz2 := zero_pws
  go_enter Try.func77, Try.ntmps77
  go_wp2_with fail
  go_loopw [2, 3, 7] (fun p i j wr => ∃ k : Nat, ∃ u : Value, k ≤ 255 ∧ j = .int .i64 k ∧ p = .int .u8 (pw k : Nat) ∧ i = u ∧ Ar wr w.heap.size 106 (zs 256) ∧ Ar wr (w.heap.size + 1) 136 (pws k) ∧ Below w.heap.size w wr) (fun _ _ j _ => 255 - (intOf j).toNat)
  case atStart => exact ⟨0, _, by omega, rfl, rfl, rfl, (Ar.new w _ _).alloc _, by rw [pws_zero]; exact heap_alloc2_new w _ _, below_alloc2 w _ _⟩
  case round =>
    obtain ⟨k, u, hk, rfl, rfl, rfl, A0, A1, hB⟩ := hrel
    by_cases hlt : k < 255
    · have hp := pw_lt k
      have hl := pws_len k hk
      have c1 : ∃ u, wr.cell? ⟨w.heap.size + 1, k, none⟩ = some u := ⟨_, A1.cell k (by omega)⟩
      obtain ⟨u1, c1⟩ := c1
      have f1 := A1.open k
      have S1 := A1.stored k (pw k)
      rw [pws_set k hlt] at S1
      have S0 := A0.far (g' := w.heap.size + 1) (k := k) (.int .u8 (pw k : Nat)) (by omega)
      have SB := hB.setCell (p := ⟨w.heap.size + 1, k, none⟩) (by simp) (.int .u8 (pw k : Nat))
      have X : Hid (pw (k + 1) = pw k ^^^ xt (pw k)) := rfl
      replace S1 := hid S1
      replace S0 := hid S0
      replace SB := hid SB
      clear A0 A1 hB
      generalize pw k = x at *
      go_wp2_with (go_at_call 98; refine (tp1 x hp _).mono ?_; rintro e w' ⟨rfl, rfl⟩)
      exact ⟨⟨k + 1, _, by omega, by go_num, int_u8 (by rw [X.out]; exact xor8 _ _ hp (xt_lt x)), rfl, S0.out, S1.out, SB.out⟩, by simp [intOf]; omega⟩
    · have hk8 : k = 255 := by omega
      subst hk8
      obtain ⟨w1, rfl⟩ : ∃ w1, w1 = wr := ⟨_, rfl⟩
      clear hk hlt
      have hz := A1.lt
      have N2 := Ar.new w1 106 (zs 256)
      have N1 := A1.alloc (.cells (arr (zs 256)) 106)
      have N0 := A0.alloc (.cells (arr (zs 256)) 106)
      have NB := hB.alloc (by omega) (.cells (arr (zs 256)) 106)
      clear A0 A1 hB
      go_wp2_with fail
      refine (boi0 _).mono ?_
      rintro e w' ⟨rfl, rfl⟩
      generalize w1.alloc (.cells (arr (zs 256)) 106) = W at *
      generalize w1.heap.size = g at *
      have c2 := N2.cell 0 (by rw [zs_len]; omega)
      have f2 := N2.open 0
      have S2 := N2.stored 0 (bi 0)
      have S1 := N1.far (g' := g) (k := 0) (.int .u8 (bi 0 : Nat)) (by omega)
      have S0 := N0.far (g' := g) (k := 0) (.int .u8 (bi 0 : Nat)) (by omega)
      have SB := NB.setCell (p := ⟨g, 0, none⟩) (by simp; omega) (.int .u8 (bi 0 : Nat))
      rw [show (zs 256).set 0 (bi 0) = bx 0 from rfl] at S2
      clear N0 N1 N2 NB
      replace S2 := hid S2
      replace S1 := hid S1
      replace S0 := hid S0
      replace SB := hid SB
      go_wp2_with (refine wpList_load_row rfl 136 _ rfl (w.heap.size + 1) rfl 136 (arr (pws 255)) _ _ S1.out Try.underlying136 rfl (by rw [arr_size, pws_len 255 (by omega)]; kernel_rfl) ?_)
      go_loopw [5, 6, 21] (fun i p j wr => ∃ k : Nat, ∃ u v : Value, k ≤ 255 ∧ j = .int .i64 k ∧ i = u ∧ p = v ∧ Ar wr w.heap.size 106 (zs 256) ∧ Ar wr (w.heap.size + 1) 136 (pws 255) ∧ Ar wr g 106 (bx k) ∧ Below w.heap.size w wr) (fun _ _ j _ => 255 - (intOf j).toNat)
      case atStart => exact ⟨0, _, _, by omega, rfl, rfl, rfl, S0.out, S1.out, S2.out, SB.out⟩
      case round =>
        obtain ⟨k, u, v, hk, rfl, rfl, rfl, A0, A1, A2, hB⟩ := hrel
        clear S0 S1 S2 SB c2 f2 W
        by_cases hlt : k < 255
        · obtain ⟨j, hj⟩ : ∃ j, j = (255 - k) % 255 := ⟨_, rfl⟩
          have hj2 : j < 255 := by omega
          have ej : (255 - (k : Int)) % 255 = (j : Int) := by omega
          have X : Hid (bx (k + 1) = (bx k).set (pw k) (bi (pw j))) := by unfold Hid; rw [bx, hj]
          clear hj
          have hix := idx_arr 136 255 Try.underlying136 (pws 255) (pws_len 255 (by omega)) k hlt
          rw [gt_some _ _ _ (pws_at k hlt)] at hix
          have c1 := A1.cell j (by rw [pws_len 255 (by omega)]; exact hj2)
          rw [gt_some _ _ _ (pws_at j hj2)] at c1
          have hp := pw_lt k
          have hq := pw_lt j
          have c2 : ∃ u, wr.cell? ⟨g, pw k, none⟩ = some u := ⟨_, A2.cell (pw k) (by rw [bx_len]; exact hp)⟩
          obtain ⟨u2, c2⟩ := c2
          have f2 := A2.open (pw k)
          have S2 := hid (A2.stored (pw k) (bi (pw j)))
          have S1 := hid (A1.far (g' := g) (k := pw k) (.int .u8 (bi (pw j) : Nat)) (by omega))
          have S0 := hid (A0.far (g' := g) (k := pw k) (.int .u8 (bi (pw j) : Nat)) (by omega))
          have SB := hid (hB.setCell (p := ⟨g, pw k, none⟩) (by simp; omega) (.int .u8 (bi (pw j) : Nat)))
          clear A0 A1 A2 hB
          generalize pw k = x at *
          generalize pw j = y at *
          go_wp2_with fail
          refine (boi y hq _).mono ?_
          rintro e w' ⟨rfl, rfl⟩
          go_wp2_with fail
          exact ⟨⟨k + 1, _, _, by omega, by go_num, rfl, rfl, S0.out, S1.out, by rw [X.out]; exact S2.out, SB.out⟩, by simp [intOf]; omega⟩
        · have hk8 : k = 255 := by omega
          subst hk8
          rw [bx_end] at A2
          have hsz : (Try.prog.info? 106).map (·.size) = some (arr boxL).size := by rw [arr_size, boxL_len]; kernel_rfl
          have SR := A0.row (l' := boxL)
          have SB := below_row hB (Nat.le_refl _) (arr boxL)
          have ho : (arr (zs 256)).size = (arr boxL).size := by rw [arr_size, arr_size, zs_len, boxL_len]
          have A2 := hid A2
          have A0 := hid A0
          have SR := hid SR
          have SB := hid SB
          have ho := hid ho
          have hsz := hid hsz
          clear A1 hB
          go_wp2_with (first | refine wpList_load_row rfl 106 _ rfl g rfl 106 (arr boxL) _ _ A2.out Try.underlying106 rfl hsz.out ?_ | refine wpList_store_row rfl 106 _ _ rfl w.heap.size (arr boxL) rfl rfl 106 _ A0.out hsz.out ho.out (arr_one _) ?_)
          exact bodyPost_ret (v := .agg (arr boxL)) (results_cell_row rfl _ _ w.heap.size 106 _ _ _ rfl SR.out Try.underlying106 rfl hsz.out) rfl ⟨rfl, SB.out⟩
end Go.Proofs.Ytckgjghpfjinfai.W
