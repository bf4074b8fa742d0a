/-
  Rows turned: what the program's ShiftRows answers.
-/
import Derived.Test.YtaopocjagikacaaBlkWalks
import Derived.Test.YtaopocjagikacaaTellWalks
import Derived.Test.YtaopocjagikacaaShmWalks
namespace Go.Proofs.Ytaopocjagikacaa.W
open Go.ChangeShapes Go.WideShapes Go.ChangeAt Go.RowKit
open Go.Proofs.Ytaopocjagikacaa.M

set_option maxRecDepth 100000 in
theorem ish_ok (v : Value) (l : List Nat) (w : World) (h : Rd w v l) (_y : Byt l) (hl : l.length = 16) :
    Calls Try.prog 39 #[v] w fun e w' => ∃ r, e = .returned (.agg #[.int .i64 0, r]) ∧ Owx w' w.heap.size r (shl l) ∧ Below w.heap.size w w' := by
  obtain ⟨p, cap, rfl, hcap, _, hcs⟩ := h.parts
  obtain ⟨b, o, rfl, -⟩ := hcs 0 (by omega)
  have RG := hid (rangeAt.below (rd_range h) (below_alloc1 w (.cells #[.int .i64 0, .slice none 0 0] 33)))
  rw [hl]
  have HL := hid hl
  have Z := hid (blk_size l hl)
  have HP := arr_at 76 5 16 Try.underlying76 (some ⟨b, o, none⟩) 16 cap (Nat.le_refl _)
  clear h hcs hl
  go_enter Try.func39, Try.ntmps39
  go_wp2_with fail
  refine (isblk_yes _ _ _).mono ?_
  rintro e w' ⟨rfl, rfl⟩
  go_wp2_with (first | refine load_sub rfl 76 _ rfl b o rfl l RG.out _ Try.underlying76 rfl Z.out ?_ | refine wpList_store_row rfl 76 _ _ rfl (w.heap.size + 1) (arr l) rfl rfl 76 _ (heap_alloc2_new w _ _) Z.out (by rw [arr_size, HL.out]; rfl) (arr_one _) ?_)
  rw [setRow_alloc2]
  refine (shm (w.heap.size + 1) l _ HL.out (heap_alloc2_new w _ _)).mono ?_
  rintro e w1 ⟨rfl, A1, G1⟩
  have V1 := var_grown G1 (heap_alloc2_old w _ _) (by simp)
  have B1 := (below_alloc2 w (.cells #[.int .i64 0, .slice none 0 0] 33) (.cells (arr l) 76)).grown G1 (by simp; omega) (fun k e => by cases e; omega)
  have LS := shl_len l
  have Z2 := hid (blk_size (shl l) LS)
  replace A1 := hid A1
  clear RG HP Z G1 HL
  go_wp2_with (refine wpList_load_row rfl 76 _ rfl (w.heap.size + 1) rfl 76 (arr (shl l)) _ _ A1.out Try.underlying76 rfl Z2.out ?_)
  refine (tellb (shl l) _ LS).mono ?_
  rintro e w2 ⟨r, rfl, O, B2⟩
  obtain ⟨q, c, rfl, -, -, -⟩ := O.rd.parts
  have hz := B1.size
  have hz1 := var_lt V1
  have V2 := var_below B2 V1
  have B3 := B1.trans (B2.mono (by omega))
  obtain ⟨f1, f2, f3, f4⟩ := var2_facts V2
  have hset := hid (var2_set (x' := .int .i64 0) (y' := .slice q (shl l).length c) V2)
  have hbel := hid (below_set2 (x := .int .i64 0) (y := .slice q (shl l).length c) B3 (Nat.le_refl _))
  have hown := hid ((O.set2 (g := w.heap.size) (x := .int .i64 0) (y := .slice q (shl l).length c) hz1).mono (base' := w.heap.size) (by omega))
  clear V1 V2 B1 B2 B3 O A1 Z2
  go_wp2
  exact bodyPost_ret (v := .agg #[.int .i64 0, .slice q (shl l).length c]) (results_cell_row rfl _ _ w.heap.size 33 _ _ _ rfl hset.out Try.underlying33 rfl (by kernel_rfl)) rfl ⟨_, rfl, hown.out, hbel.out⟩

set_option maxRecDepth 100000 in
theorem ish_no (v : Value) (l : List Nat) (w : World) (h : Rd w v l) (hl : l.length ≠ 16) :
    Calls Try.prog 39 #[v] w fun e w' => e = .returned (.agg #[.int .i64 2, .slice none 0 0]) ∧ Below w.heap.size w w' := by
  obtain ⟨p, cap, rfl, -, -, -⟩ := h.parts
  clear h
  go_enter Try.func39, Try.ntmps39
  go_wp2_with fail
  refine (isblk_no _ _ _ hl _).mono ?_
  rintro e w' ⟨rfl, rfl⟩
  go_wp2
  exact bodyPost_ret (v := .agg #[.int .i64 2, .slice none 0 0]) (by simp [results, Try.results39, go_sem]) rfl ⟨rfl, below_alloc1 w _⟩

theorem ish (v : Value) (l : List Nat) (w : World) (h : Rd w v l) (y : Byt l) :
    Calls Try.prog 39 #[v] w fun e w' => ∃ r, e = .returned (.agg #[.int .i64 (blkC l), r]) ∧ Owx w' w.heap.size r (blkB shl l) ∧ Below w.heap.size w w' := by
  by_cases hl : l.length = 16
  · rw [show blkC l = 0 by rw [blkC, if_pos hl], show blkB shl l = shl l by rw [blkB, if_pos hl]]
    exact ish_ok v l w h y hl
  · rw [show blkC l = 2 by rw [blkC, if_neg hl], show blkB shl l = [] by rw [blkB, if_neg hl]]
    exact (ish_no v l w h hl).mono fun e w' ⟨he, hb⟩ => ⟨_, he, Owx.nil _ _, hb⟩
end Go.Proofs.Ytaopocjagikacaa.W
