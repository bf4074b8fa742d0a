/-
  Rows turned: what the model's l2Shift and ShiftRows answer.
-/
import Derived.Test.YtaopocjagikacaaBlkC
import Derived.Test.YtaopocjagikacaaBox
namespace Go.Proofs.Ytaopocjagikacaa.W
open Go.ChangeShapes Go.WideShapes Go.ChangeAt Go.RowKit
open Go.Proofs.Ytaopocjagikacaa.M

set_option maxHeartbeats 1000000 in
set_option maxRecDepth 100000 in
theorem l2sh (v : Value) (l : List Nat) (w : World) (h : Rd w v l) (_y : Byt l) (hl : l.length = 16) :
    Calls Try.prog 75 #[v] w fun e w' => ∃ r, e = .returned r ∧ Own w' w.heap.size r (shl l) ∧ Below w.heap.size w w' := by
  obtain ⟨i0, hi, hz0, hz1, hz2⟩ := info_parts info8
  obtain ⟨b, o, cap, rfl, hcap, hb0⟩ := h.spot (by omega)
  have HC := hid (fun i hi => h.cells i hi)
  rw [hl] at hcap ⊢
  have hs : (shl l).length = (zs 16).length := by rw [shl_len, zs_len]
  have hzl := zs_len 16
  clear h
  go_enter Try.func75, Try.ntmps75
  go_wp2_with (at_make; refine wpList_make_full _ rfl _ _ 22 rfl w.heap.size 5 i0 (.int .u8 0) 1 Try.underlying22 hi hz0 hz1 .i64 .i64 _ _ 16 rfl rfl rfl rfl (by rw [hz2]; omega) (by unfold maxLen; omega) (Nat.le_refl _) ?_; intro w0 hown0 hgrow0)
  have A1 := (own_made w w0 16 hown0).ar (by simp)
  have hB0 := below_of_grown hgrow0 (Nat.le_refl _) (fun k hk => by simp at hk)
  rw [show List.replicate 16 0 = zs 16 from rfl] at A1
  clear hown0 hgrow0 hi hz0 hz1 hz2
  go_loopw [4, 5] (fun i r wr => ∃ k : Nat, ∃ u : Value, k ≤ 16 ∧ i = .int .i64 k ∧ r = u ∧ Ar wr w.heap.size 5 (upd (shl l) (zs 16) k) ∧ Below w.heap.size w wr) (fun i _ _ => 16 - (intOf i).toNat)
  case atStart => exact ⟨0, _, by omega, rfl, rfl, by rw [upd_zero]; exact A1, hB0⟩
  case round =>
    obtain ⟨k, u, hk, rfl, rfl, A, hB⟩ := hrel
    clear A1 hB0
    by_cases hlt : k < 16
    · obtain ⟨q, hq⟩ : ∃ q, q = (k + 4 * (k % 4)) % 16 := ⟨_, rfl⟩
      have c1 := cell_kept hB (HC.out q (by omega))
      have c2 : ∃ u, wr.cell? ⟨w.heap.size, k, none⟩ = some u := ⟨_, A.cell k (by rw [upd_len _ _ hs]; omega)⟩
      obtain ⟨u2, c2⟩ := c2
      have f2 := A.open k
      have e : gt (shl l) k = gt l q := by
        rw [gt_eq (shl l) k (by omega)]
        simp only [shl, List.getElem_map, List.getElem_range]
        unfold gt
        rw [hq]
      have S := A.stored k (gt (shl l) k)
      rw [upd_set _ _ hs k (by omega), e] at S
      have SB := hB.setCell (p := ⟨w.heap.size, k, none⟩) (Nat.le_refl _) (.int .u8 (gt l q : Nat))
      have e1 : ((k : Int) + 4 * ((k : Int) % 4)) % 16 = (q : Int) := by omega
      have q1 : (q : Int) < 16 := by omega
      have q0 : (0 : Int) ≤ (q : Int) := by omega
      have k0 : (0 : Int) ≤ (k : Int) := by omega
      have k1 : (k : Int) < 16 := by omega
      replace S := hid S
      replace SB := hid SB
      clear A hB e hq hs HC
      generalize gt l q = z at *
      go_wp2
      exact ⟨⟨k + 1, _, by omega, by go_num, rfl, S.out, SB.out⟩, by simp [intOf]; omega⟩
    · have hk8 : k = 16 := by omega
      subst hk8
      rw [upd_end _ _ hs 16 (by omega)] at A
      go_wp2
      go_ret
      exact ⟨_, rfl, Own.ofAr A (shl_len l) (Nat.le_refl _) (by unfold maxLen; omega), hB⟩

set_option maxRecDepth 100000 in
theorem ssh_ok (v : Value) (l : List Nat) (w : World) (h : Rd w v l) (y : Byt l) (hl : l.length = 16) :
    Calls Try.prog 42 #[v] w fun e w' => ∃ r, e = .returned (.agg #[.int .i64 0, r]) ∧ Owx w' w.heap.size r (shl l) ∧ Below w.heap.size w w' := by
  have L := hid (fun w => l2sh v l w)
  obtain ⟨b, o, cap, rfl, hcap, hb0⟩ := h.spot (by omega)
  rw [hl] at *
  have A := hid (h.below (below_alloc1 w (.cells #[.int .i64 0, .slice none 0 0] 33)))
  have H2 := hid hl
  clear h hl
  go_enter Try.func42, Try.ntmps42
  go_wp2_with fail
  refine (L.out _ A.out y H2.out).mono ?_
  rintro e w' ⟨r, rfl, hO, hB⟩
  obtain ⟨p, cp, rfl, -, -, -⟩ := hO.rd.parts
  have hv := var2 hB (by simp)
  obtain ⟨f1, f2, f3, f4⟩ := var2_facts hv
  have hset := hid (var2_set (x' := .int .i64 0) (y' := .slice p (shl l).length cp) hv)
  have hbel := hid (below_set2 (x := .int .i64 0) (y := .slice p (shl l).length cp) ((below_alloc1 w _).trans (hB.mono (by simp))) (Nat.le_refl _))
  have hown := hid ((hO.set2 (g := w.heap.size) (x := .int .i64 0) (y := .slice p (shl l).length cp) (by simp)).mono (base' := w.heap.size) (by simp)).x
  clear hv hB hO A L
  go_wp2
  exact bodyPost_ret (v := .agg #[.int .i64 0, .slice p (shl l).length cp]) (results_cell_row rfl _ _ w.heap.size 33 _ _ _ rfl hset.out Try.underlying33 rfl (by kernel_rfl)) rfl ⟨_, rfl, hown.out, hbel.out⟩

set_option maxRecDepth 100000 in
theorem ssh_no (v : Value) (l : List Nat) (w : World) (h : Rd w v l) (hl : l.length ≠ 16) :
    Calls Try.prog 42 #[v] w fun e w' => e = .returned (.agg #[.int .i64 2, .slice none 0 0]) ∧ Below w.heap.size w w' := by
  obtain ⟨p, cap, rfl, -, -, -⟩ := h.parts
  have hne : ((l.length : Int) != 16) = true := by rw [bne_iff_ne]; omega
  clear h
  go_enter Try.func42, Try.ntmps42
  go_wp2
  exact bodyPost_ret (v := .agg #[.int .i64 2, .slice none 0 0]) (by simp [results, Try.results42, go_sem]) rfl ⟨rfl, below_alloc1 w _⟩

theorem ssh (v : Value) (l : List Nat) (w : World) (h : Rd w v l) (y : Byt l) :
    Calls Try.prog 42 #[v] w fun e w' => ∃ r, e = .returned (.agg #[.int .i64 (blkC l), r]) ∧ Owx w' w.heap.size r (blkB shl l) ∧ Below w.heap.size w w' := by
  by_cases hl : l.length = 16
  · rw [show blkC l = 0 by rw [blkC, if_pos hl], show blkB shl l = shl l by rw [blkB, if_pos hl]]
    exact ssh_ok v l w h y hl
  · rw [show blkC l = 2 by rw [blkC, if_neg hl], show blkB shl l = [] by rw [blkB, if_neg hl]]
    exact (ssh_no v l w h hl).mono fun e w' ⟨he, hb⟩ => ⟨_, he, Owx.nil _ _, hb⟩
end Go.Proofs.Ytaopocjagikacaa.W
