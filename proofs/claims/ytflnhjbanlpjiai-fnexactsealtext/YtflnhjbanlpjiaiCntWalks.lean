/-
  A block counted up: the program's counted.
-/
import Derived.Test.YtflnhjbanlpjiaiBlkSize
import Derived.Test.YtflnhjbanlpjiaiSlX
import Derived.Test.YtflnhjbanlpjiaiCtrF
namespace Go.Proofs.Ytflnhjbanlpjiai.W
open Go.ChangeShapes Go.WideShapes Go.ChangeAt Go.RowKit
open Go.Proofs.Ytflnhjbanlpjiai.M

set_option maxHeartbeats 1000000 in
set_option maxRecDepth 100000 in
theorem counted (l : List Nat) (w : World) (hl : l.length = 16) (y : Byt l) :
    Calls Try.prog 26 #[.agg (arr l)] w fun e w' => e = .returned (.agg (arr (cu l))) ∧ Below w.heap.size w w' := by
  have HL := hid hl
  clear hl
  have A0 := Ar.new w 39 l
  have A1 := Ar.new (w.alloc (.cells (arr l) 39)) 39 (zs 16)
  simp only [World.size_alloc] at A1
  have H0 := hid (A0.alloc (.cells (arr (zs 16)) 39))
  have H1 := hid A1
  have HB := hid (below_alloc2 w (.cells (arr l) 39) (.cells (arr (zs 16)) 39))
  have Z := hid (blk_size (cu l) (cu_len l HL.out))
  clear A0 A1
  go_enter Try.func26, Try.ntmps26
  go_wp2_with fail
  go_loopw [3] (fun i3 ws => ∃ n : Nat, n ≤ 4 ∧ i3 = .int .i64 (15 - (n : Int)) ∧ Hid (∀ j, j < n → gt l (15 - j) = 255) ∧ Hid (Ar ws w.heap.size 39 (zd l n)) ∧ Hid (Ar ws (w.heap.size + 1) 39 (zs 16)) ∧ Hid (Below w.heap.size w ws)) (fun i3 _ => (intOf i3).toNat)
  case atStart => exact ⟨0, by omega, rfl, hid (fun j h => by omega), hid (by rw [zd_zero l HL.out]; exact H0.out), H1, HB⟩
  case round =>
    clear H0 H1 HB
    obtain ⟨n, hn, rfl, HF, H0, H1, HB⟩ := hrel
    by_cases hlt : n < 4
    · obtain ⟨t, ht⟩ : ∃ t : Nat, t + n = 15 := ⟨15 - n, by omega⟩
      have et : 15 - n = t := by omega
      rw [show 15 - (n : Int) = (t : Int) by omega]
      have c0 := H0.out.cell t (by rw [zd_len l HL.out n (by omega)]; omega)
      have f0 := H0.out.open t
      have ZG := zd_gt l HL.out n (by omega)
      rw [et] at ZG
      rw [ZG] at c0
      have b0 := gt_byt l y t
      have t0 : (0 : Int) ≤ (t : Int) := by omega
      have t1 : (t : Int) < 16 := by omega
      have t2 : (12 : Int) ≤ (t : Int) := by omega
      by_cases h255 : gt l t = 255
      · have S := H0.out.stored t 0
        have ZS := zd_set l HL.out n hlt
        rw [et] at ZS
        rw [ZS] at S
        have SB := HB.out.setCell (p := ⟨w.heap.size, t, none⟩) (Nat.le_refl _) (.int .u8 ((0 : Nat) : Int))
        have SR := H1.out.far (g' := w.heap.size) (k := t) (.int .u8 ((0 : Nat) : Int)) (by omega)
        have HN := hid (show ∀ j, j < n + 1 → gt l (15 - j) = 255 from fun j hj => by
          by_cases e : j = n
          · subst e; rw [et]; exact h255
          · exact HF.out j (by omega))
        rw [h255] at c0
        rw [show ((0 : Nat) : Int) = 0 from rfl] at S SB SR
        replace S := hid S
        replace SB := hid SB
        replace SR := hid SR
        clear ZG ZS
        go_wp2_with fail
        exact ⟨⟨n + 1, by omega, by congr 1; omega, HN, S, SR, SB⟩, by simp [intOf]; omega⟩
      · have CS := cu_stop l HL.out y n hlt HF.out (by rw [et]; exact h255)
        rw [et] at CS
        have S := H0.out.stored t (gt l t + 1)
        rw [CS] at S
        have SB := HB.out.setCell (p := ⟨w.heap.size, t, none⟩) (Nat.le_refl _) (.int .u8 ((gt l t + 1 : Nat) : Int))
        have SR := H1.out.far (g' := w.heap.size) (k := t) (.int .u8 ((gt l t + 1 : Nat) : Int)) (by omega)
        clear ZG CS HF
        generalize gt l t = x at *
        have x1 : x < 255 := by omega
        have wx : IntKind.u8.wrap ((x : Int) + 1) = (x : Int) + 1 := by rw [IntKind.wrap_u8']; omega
        have nz : ((x : Int) + 1 != 0) = true := by rw [bne_iff_ne]; omega
        rw [show ((x + 1 : Nat) : Int) = (x : Int) + 1 by omega] at S SB SR
        replace S := hid S
        replace SB := hid SB
        replace SR := hid SR
        go_wp2_with (first | refine wpList_load_row rfl 39 _ rfl w.heap.size rfl 39 (arr (cu l)) _ _ S.out Try.underlying39 rfl Z.out ?_ | refine wpList_store_row rfl 39 _ _ rfl (w.heap.size + 1) (arr (cu l)) rfl rfl 39 _ SR.out Z.out (by rw [arr_size, arr_size, cu_len l HL.out]; rfl) (arr_one _) ?_)
        exact bodyPost_ret (v := .agg (arr (cu l))) (results_cell_row rfl _ _ (w.heap.size + 1) 39 _ _ _ rfl (SR.out.row (l' := cu l)) Try.underlying39 rfl Z.out) rfl ⟨rfl, below_row SB.out (by omega) _⟩
    · have hn4 : n = 4 := by omega
      subst hn4
      have CA := cu_all l HL.out HF.out
      rw [CA] at H0
      go_wp2_with (first | refine wpList_load_row rfl 39 _ rfl w.heap.size rfl 39 (arr (cu l)) _ _ H0.out Try.underlying39 rfl Z.out ?_ | refine wpList_store_row rfl 39 _ _ rfl (w.heap.size + 1) (arr (cu l)) rfl rfl 39 _ H1.out Z.out (by rw [arr_size, arr_size, cu_len l HL.out]; rfl) (arr_one _) ?_)
      exact bodyPost_ret (v := .agg (arr (cu l))) (results_cell_row rfl _ _ (w.heap.size + 1) 39 _ _ _ rfl (H1.out.row (l' := cu l)) Try.underlying39 rfl Z.out) rfl ⟨rfl, below_row HB.out (by omega) _⟩
end Go.Proofs.Ytflnhjbanlpjiai.W
