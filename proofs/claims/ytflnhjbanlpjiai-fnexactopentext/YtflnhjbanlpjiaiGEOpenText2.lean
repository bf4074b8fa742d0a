/-
  Products of group elements: the program's times, groupProduct.
  A group element as a block, and a slice as a block: the program's blockOfElement, blockOf, groupProduct.
  The hash of blocks: the program's hashOf.
  What a sealer hides, and its tag: the program's hide, tagOf.
  What is a key: the program's isKey.
  Whether lengths fit: the program's sealFits.
  Two blocks held against each other.
-/
import Derived.Test.YtflnhjbanlpjiaiGEOpenText1
import Derived.Test.YtflnhjbanlpjiaiSlX
import Derived.Test.YtflnhjbanlpjiaiHshF
import Derived.Test.YtflnhjbanlpjiaiCut
import Derived.Test.YtflnhjbanlpjiaiSteps
import Derived.Test.YtflnhjbanlpjiaiSlrM
import Derived.Test.YtflnhjbanlpjiaiBase
import Derived.Test.YtflnhjbanlpjiaiWithin
import Derived.Test.YtflnhjbanlpjiaiAskF
import Derived.Test.YtflnhjbanlpjiaiBlkSize
import Derived.Laws.StructEq

namespace Go.Proofs.Ytflnhjbanlpjiai.W
open Go.ChangeShapes Go.WideShapes Go.ChangeAt Go.RowKit
open Go.Proofs.Ytflnhjbanlpjiai.M

theorem idx_two (a b : Int) (n : Nat) (hn : n < 2) (w : World) :
    (Instr.index 98 (.agg #[.int .u64 a, .int .u64 b]) (.int .i64 (n : Int))).run Try.prog w = .ok (.int .u64 (if n = 0 then a else b)) w := by
  have hu : Try.prog.underlying 98 = some (.array 2 51) := Try.underlying98
  rcases (show n = 0 ∨ n = 1 by omega) with rfl | rfl
  · simp [Instr.index, run_underlying hu, asIntOf, part, go_sem]
  · simp [Instr.index, run_underlying hu, asIntOf, part, go_sem]
theorem half_of (q : Nat × Nat) (n : Nat) : (if n = 0 then (q.1 : Int) else (q.2 : Int)) = ((if n = 0 then q.1 else q.2 : Nat) : Int) := by split <;> rfl
theorem fb_half (q : Nat × Nat) (n j : Nat) (hn : n < 2) (hj : j < 64) : fb q (64 * n + j) = (if n = 0 then q.1 else q.2).testBit (63 - j) := by
  unfold fb
  rcases (show n = 0 ∨ n = 1 by omega) with rfl | rfl
  · rw [if_pos (by omega), if_pos rfl, show 63 - (64 * 0 + j) = 63 - j by omega]
  · rw [if_neg (by omega), if_neg (by omega), show 127 - (64 * 1 + j) = 63 - j by omega]
theorem pw_at (j : Nat) (hj : j < 64) : 9223372036854775808 / 2 ^ j = 2 ^ (63 - j) := by
  rw [show (9223372036854775808 : Nat) = 2 ^ 63 from rfl]
  exact Nat.pow_div (by omega) (by omega)
theorem pw_and (f j : Nat) (hf : f < 18446744073709551616) (hj : j < 64) : bits .and .u64 (f : Int) ((9223372036854775808 / 2 ^ j : Nat) : Int) = ((f / 2 ^ (63 - j) % 2 * 2 ^ (63 - j) : Nat) : Int) := by
  have h : 2 ^ (63 - j) < 2 ^ 64 := Nat.pow_lt_pow_right (by omega) (by omega)
  rw [pw_at j hj, u64_and_nat _ _ hf h, nat_bit]
theorem pw_yes (f j : Nat) (hf : f < 18446744073709551616) (hj : j < 64) (h : f.testBit (63 - j) = true) : (bits .and .u64 (f : Int) ((9223372036854775808 / 2 ^ j : Nat) : Int) != 0) = true := by
  have h2 := (tb_eq _ _).1 h
  have h3 : 0 < 2 ^ (63 - j) := Nat.pow_pos (by omega)
  rw [pw_and f j hf hj, h2, bne_iff_ne]
  omega
theorem pw_no (f j : Nat) (hf : f < 18446744073709551616) (hj : j < 64) (h : f.testBit (63 - j) = false) : (bits .and .u64 (f : Int) ((9223372036854775808 / 2 ^ j : Nat) : Int) != 0) = false := by
  have h2 : ¬ f / 2 ^ (63 - j) % 2 = 1 := fun e => by rw [(tb_eq _ _).2 e] at h; cases h
  rw [pw_and f j hf hj, show f / 2 ^ (63 - j) % 2 = 0 by omega]
  simp

/-- Five new variables. -/
theorem five (w : World) (a b c d e : Obj) : ((((((w.alloc a).alloc b).alloc c).alloc d).alloc e).heap[w.heap.size]? = some a) ∧ ((((((w.alloc a).alloc b).alloc c).alloc d).alloc e).heap[w.heap.size + 1 + 1]? = some c) ∧ ((((((w.alloc a).alloc b).alloc c).alloc d).alloc e).heap[w.heap.size + 1 + 1 + 1]? = some d) ∧ ((((((w.alloc a).alloc b).alloc c).alloc d).alloc e).heap[w.heap.size + 1 + 1 + 1 + 1]? = some e) ∧ Below w.heap.size w (((((w.alloc a).alloc b).alloc c).alloc d).alloc e) := by
  refine ⟨var_alloc _ (var_alloc _ (var_alloc _ (var_alloc _ (heap_alloc_new w a)))), ?_, ?_, ?_, by repeat (first | exact Below.refl _ _ | apply Below.drew | refine Below.alloc ?_ (by simp; try omega) _)⟩
  · have h := heap_alloc_new ((w.alloc a).alloc b) c
    simp only [World.size_alloc] at h
    exact var_alloc _ (var_alloc _ h)
  · have h := heap_alloc_new (((w.alloc a).alloc b).alloc c) d
    simp only [World.size_alloc] at h
    exact var_alloc _ h
  · have h := heap_alloc_new ((((w.alloc a).alloc b).alloc c).alloc d) e
    simp only [World.size_alloc] at h
    exact h

set_option maxHeartbeats 1000000 in
set_option maxRecDepth 100000 in
theorem gtimes (p q : Nat × Nat) (w : World) (hp : G64 p) (hq : G64 q) :
    Calls Try.prog 77 #[.agg (ec p), .agg (ec q), .agg (ec (16212958658533785600, 0))] w fun e w' => e = .returned (.agg (ec (gmul q p))) ∧ Below w.heap.size w w' := by
  have HP := hid hp
  have HQ := hid hq
  clear hp hq
  obtain ⟨V0, V2, V3, V4, B⟩ := five w (.cells (ec p) 53) (.cells (ec q) 53) (.cells (ec (16212958658533785600, 0)) 53) (.cells (ec g0) 53) (.cells (ec g0) 53)
  have H0 := hid (show El _ _ _ from V0)
  have H2 := hid (show El _ _ _ from V2)
  have H3 := hid (show El _ _ _ from V3)
  have H4 := hid (show El _ _ _ from V4)
  have HB := hid B
  clear V0 V2 V3 V4 B
  show Calls _ _ #[.agg #[.int .u64 (p.1 : Int), .int .u64 (p.2 : Int)], .agg #[.int .u64 (q.1 : Int), .int .u64 (q.2 : Int)], .agg #[.int .u64 16212958658533785600, .int .u64 0]] _ _
  go_enter Try.func77, Try.ntmps77
  go_wp2_with fail
  go_loopw [9, 10, 16] (fun f9 p10 i16 ws => ∃ n : Nat, ∃ u v : Value, n ≤ 2 ∧ f9 = u ∧ p10 = v ∧ i16 = .int .i64 (n : Nat) ∧ Hid (El ws w.heap.size (gxN p (64 * n))) ∧ Hid (El ws (w.heap.size + 1 + 1) (16212958658533785600, 0)) ∧ Hid (El ws (w.heap.size + 1 + 1 + 1) g0) ∧ Hid (El ws (w.heap.size + 1 + 1 + 1 + 1) (gs (fb q) p (64 * n))) ∧ Hid (Below w.heap.size w ws)) (fun _ _ i16 _ => 2 - (intOf i16).toNat)
  case atStart => exact ⟨0, _, _, by omega, rfl, rfl, rfl, H0, H2, H3, H4, HB⟩
  case round =>
    clear H0 H2 H3 H4 HB
    obtain ⟨n, u, v, hn, rfl, rfl, rfl, H0, H2, H3, H4, HB⟩ := hrel
    by_cases hlt : n < 2
    · have hix := idx_two (q.1 : Int) (q.2 : Int) n hlt
      rw [half_of] at hix
      have HF := hid (fun j (hj : j < 64) => fb_half q n j hlt hj)
      have F64 := hid (show (if n = 0 then q.1 else q.2) < 18446744073709551616 by have h1 := HQ.out.1; have h2 := HQ.out.2; split <;> assumption)
      have n0 : (0 : Int) ≤ (n : Int) := by omega
      have n2 : (n : Int) < 2 := by omega
      generalize (if n = 0 then q.1 else q.2 : Nat) = f at *
      go_wp2_with (go_at_call 80; refine (pzero _).mono ?_; rintro e w' ⟨rfl, rfl⟩)
      go_loopw [10] (fun p10 wt => ∃ j : Nat, j ≤ 64 ∧ p10 = .int .u64 ((9223372036854775808 / 2 ^ j : Nat) : Int) ∧ Hid (El wt w.heap.size (gxN p (64 * n + j))) ∧ Hid (El wt (w.heap.size + 1 + 1) (16212958658533785600, 0)) ∧ Hid (El wt (w.heap.size + 1 + 1 + 1) g0) ∧ Hid (El wt (w.heap.size + 1 + 1 + 1 + 1) (gs (fb q) p (64 * n + j))) ∧ Hid (Below w.heap.size w wt)) (fun p10 _ => (intOf p10).toNat)
      case atStart => exact ⟨0, by omega, rfl, H0, H2, H3, H4, HB⟩
      case round =>
        clear H0 H2 H3 H4 HB
        obtain ⟨j, hj, rfl, I0, I2, I3, I4, IB⟩ := hrel
        by_cases hlj : j < 64
        · have XG := hid (gxN_64 HP.out (64 * n + j))
          have SG := hid (gs_64 (fb q) HP.out (64 * n + j))
          have PP := pw_at j hlj
          have PL : 0 < 2 ^ (63 - j) := Nat.pow_pos (by omega)
          rw [← PP] at PL
          have PN := hid (show Value.int .u64 (((9223372036854775808 / 2 ^ j : Nat) : Int) / 2) = .int .u64 ((9223372036854775808 / 2 ^ (j + 1) : Nat) : Int) by rw [show ((9223372036854775808 / 2 ^ j : Nat) : Int) / 2 = ((9223372036854775808 / 2 ^ j / 2 : Nat) : Int) by omega, Nat.div_div_eq_div_mul, ← Nat.pow_succ])
          have p1 : (((9223372036854775808 / 2 ^ j : Nat) : Int) != 0) = true := by rw [bne_iff_ne]; omega
          have p2 : 9223372036854775808 / 2 ^ j < 18446744073709551616 := Nat.lt_of_le_of_lt (Nat.div_le_self _ _) (by decide)
          have MS := hid (show (intOf (Value.int .u64 (((9223372036854775808 / 2 ^ j : Nat) : Int) / 2))).toNat < (intOf (Value.int .u64 ((9223372036854775808 / 2 ^ j : Nat) : Int))).toNat by simp only [intOf]; omega)
          by_cases hb : f.testBit (63 - j) = true
          · have c1 := pw_yes f j F64.out hlj hb
            have SN := hid (gs_yes (fb q) p (64 * n + j) ((HF.out j hlj).trans hb))
            clear PP HF
            generalize 9223372036854775808 / 2 ^ j = pw at *
            go_wp2_with (first | refine wpList_load_row rfl 53 _ rfl (w.heap.size + 1 + 1 + 1 + 1) rfl 53 (ec (gs (fb q) p (64 * n + j))) _ _ I4.out Try.underlying53 rfl (ec_size _) ?_ | refine wpList_load_row rfl 53 _ rfl (w.heap.size) rfl 53 (ec (gxN p (64 * n + j))) _ _ I0.out Try.underlying53 rfl (ec_size _) ?_)
            refine (gplusE (gs (fb q) p (64 * n + j)) (gxN p (64 * n + j)) _ SG.out XG.out).mono ?_
            rintro e w1 ⟨rfl, hB⟩
            have Y4 := hid (I4.out.below hB)
            have Y0 := hid ((I0.out.below hB).far (ec (ga (gs (fb q) p (64 * n + j)) (gxN p (64 * n + j)))) (show w.heap.size ≠ w.heap.size + 1 + 1 + 1 + 1 by omega))
            have Y2 := hid ((I2.out.below hB).far (ec (ga (gs (fb q) p (64 * n + j)) (gxN p (64 * n + j)))) (show w.heap.size + 1 + 1 ≠ w.heap.size + 1 + 1 + 1 + 1 by omega))
            have Y3 := hid ((I3.out.below hB).far (ec (ga (gs (fb q) p (64 * n + j)) (gxN p (64 * n + j)))) (show w.heap.size + 1 + 1 + 1 ≠ w.heap.size + 1 + 1 + 1 + 1 by omega))
            have YB := hid (below_row (IB.out.trans (hB.mono IB.out.size)) (show w.heap.size ≤ w.heap.size + 1 + 1 + 1 + 1 by omega) (ec (ga (gs (fb q) p (64 * n + j)) (gxN p (64 * n + j)))))
            have YN := hid (Y4.out.row (q := ga (gs (fb q) p (64 * n + j)) (gxN p (64 * n + j))))
            clear hB
            go_wp2_with (first | refine wpList_store_row rfl 53 _ _ rfl (w.heap.size + 1 + 1 + 1 + 1) (ec (ga (gs (fb q) p (64 * n + j)) (gxN p (64 * n + j)))) rfl rfl 53 _ Y4.out (ec_size _) rfl (ec_one _) ?_ | refine wpList_load_row rfl 53 _ rfl (w.heap.size) rfl 53 (ec (gxN p (64 * n + j))) _ _ Y0.out Try.underlying53 rfl (ec_size _) ?_ | refine wpList_load_row rfl 53 _ rfl (w.heap.size + 1 + 1) rfl 53 (ec (16212958658533785600, 0)) _ _ Y2.out Try.underlying53 rfl (ec_size _) ?_)
            refine (griseE (gxN p (64 * n + j)) _ XG.out).mono ?_
            rintro e w2 ⟨rfl, hB⟩
            have T0 := hid (Y0.out.below hB)
            have T2 := hid ((Y2.out.below hB).far (ec (gx (gxN p (64 * n + j)))) (show w.heap.size + 1 + 1 ≠ w.heap.size by omega))
            have T3 := hid ((Y3.out.below hB).far (ec (gx (gxN p (64 * n + j)))) (show w.heap.size + 1 + 1 + 1 ≠ w.heap.size by omega))
            have T4 := hid ((YN.out.below hB).far (ec (gx (gxN p (64 * n + j)))) (show w.heap.size + 1 + 1 + 1 + 1 ≠ w.heap.size by omega))
            have TB := hid (below_row (YB.out.trans (hB.mono YB.out.size)) (Nat.le_refl _) (ec (gx (gxN p (64 * n + j)))))
            have TN := hid (T0.out.row (q := gx (gxN p (64 * n + j))))
            clear hB
            go_wp2_with (first | refine wpList_store_row rfl 53 _ _ rfl (w.heap.size) (ec (gx (gxN p (64 * n + j)))) rfl rfl 53 _ T0.out (ec_size _) rfl (ec_one _) ?_)
            refine ⟨⟨j + 1, by omega, ?_, TN, T2, T3, ?_, TB⟩, ?_⟩
            · exact PN.out
            · rw [← Nat.add_assoc, SN.out]; exact T4
            · exact MS.out
          · have hb : f.testBit (63 - j) = false := by simpa using hb
            have c1 := pw_no f j F64.out hlj hb
            have SN := hid (gs_no (fb q) p (64 * n + j) ((HF.out j hlj).trans hb))
            clear PP HF
            generalize 9223372036854775808 / 2 ^ j = pw at *
            go_wp2_with (first | refine wpList_load_row rfl 53 _ rfl (w.heap.size) rfl 53 (ec (gxN p (64 * n + j))) _ _ I0.out Try.underlying53 rfl (ec_size _) ?_ | refine wpList_load_row rfl 53 _ rfl (w.heap.size + 1 + 1) rfl 53 (ec (16212958658533785600, 0)) _ _ I2.out Try.underlying53 rfl (ec_size _) ?_)
            refine (griseE (gxN p (64 * n + j)) _ XG.out).mono ?_
            rintro e w2 ⟨rfl, hB⟩
            have T0 := hid (I0.out.below hB)
            have T2 := hid ((I2.out.below hB).far (ec (gx (gxN p (64 * n + j)))) (show w.heap.size + 1 + 1 ≠ w.heap.size by omega))
            have T3 := hid ((I3.out.below hB).far (ec (gx (gxN p (64 * n + j)))) (show w.heap.size + 1 + 1 + 1 ≠ w.heap.size by omega))
            have T4 := hid ((I4.out.below hB).far (ec (gx (gxN p (64 * n + j)))) (show w.heap.size + 1 + 1 + 1 + 1 ≠ w.heap.size by omega))
            have TB := hid (below_row (IB.out.trans (hB.mono IB.out.size)) (Nat.le_refl _) (ec (gx (gxN p (64 * n + j)))))
            have TN := hid (T0.out.row (q := gx (gxN p (64 * n + j))))
            clear hB
            go_wp2_with (first | refine wpList_store_row rfl 53 _ _ rfl (w.heap.size) (ec (gx (gxN p (64 * n + j)))) rfl rfl 53 _ T0.out (ec_size _) rfl (ec_one _) ?_)
            refine ⟨⟨j + 1, by omega, ?_, TN, T2, T3, ?_, TB⟩, ?_⟩
            · exact PN.out
            · rw [← Nat.add_assoc, SN.out]; exact T4
            · exact MS.out
        · have hj64 : j = 64 := by omega
          subst hj64
          rw [show 9223372036854775808 / 2 ^ 64 = 0 from rfl]
          go_wp2_with fail
          refine ⟨⟨n + 1, _, _, by omega, rfl, rfl, num_succ n, I0, I2, I3, I4, IB⟩, ?_⟩
          simp [intOf]
          omega
    · have hn2 : n = 2 := by omega
      subst hn2
      go_wp2_with (first | refine wpList_load_row rfl 53 _ rfl (w.heap.size + 1 + 1 + 1 + 1) rfl 53 (ec (gmul q p)) _ _ H4.out Try.underlying53 rfl (ec_size _) ?_ | refine wpList_store_row rfl 53 _ _ rfl (w.heap.size + 1 + 1 + 1) (ec (gmul q p)) rfl rfl 53 _ H3.out (ec_size _) rfl (ec_one _) ?_)
      exact bodyPost_ret (v := .agg (ec (gmul q p))) (results_cell_row rfl _ _ (w.heap.size + 1 + 1 + 1) 53 _ _ _ rfl (H3.out.row (q := gmul q p)) Try.underlying53 rfl (ec_size _)) rfl ⟨rfl, below_row HB.out (by omega) _⟩
end Go.Proofs.Ytflnhjbanlpjiai.W

namespace Go.Proofs.Ytflnhjbanlpjiai.W
open Go.ChangeShapes Go.WideShapes Go.ChangeAt Go.RowKit
open Go.Proofs.Ytflnhjbanlpjiai.M

set_option maxHeartbeats 1000000 in
set_option maxRecDepth 100000 in
theorem blkofel (p : Nat × Nat) (w : World) (hp : G64 p) :
    Calls Try.prog 74 #[.agg (ec p)] w fun e w' => e = .returned (.agg (arr (eb p))) ∧ Below w.heap.size w w' := by
  have HP := hid hp
  clear hp
  have V0 := heap_alloc_new w (.cells (ec p) 53)
  have A1 := Ar.new (w.alloc (.cells (ec p) 53)) 39 (zs 16)
  have A2 := Ar.new ((w.alloc (.cells (ec p) 53)).alloc (.cells (arr (zs 16)) 39)) 39 (zs 16)
  simp only [World.size_alloc] at A1 A2
  have H0 := hid (show El _ _ _ from var_alloc (.cells (arr (zs 16)) 39) (var_alloc (.cells (arr (zs 16)) 39) V0))
  have H1 := hid (A1.alloc (.cells (arr (zs 16)) 39))
  have H2 := hid A2
  have HB := hid (below_alloc3 w (.cells (ec p) 53) (.cells (arr (zs 16)) 39) (.cells (arr (zs 16)) 39))
  clear V0 A1 A2
  go_enter Try.func74, Try.ntmps74
  go_wp2_with fail
  go_loopw [4] (fun i4 ws => ∃ k : Nat, k ≤ 8 ∧ i4 = .int .i64 (7 - (k : Int)) ∧ Hid (El ws w.heap.size (p.1 / 256 ^ k, p.2 / 256 ^ k)) ∧ Hid (Ar ws (w.heap.size + 1) 39 (zs 16)) ∧ Hid (Ar ws (w.heap.size + 1 + 1) 39 (rk (gt (eb p)) k)) ∧ Hid (Below w.heap.size w ws)) (fun i4 _ => (intOf i4 + 1).toNat)
  case atStart => exact ⟨0, by omega, rfl, hid (by rw [Nat.pow_zero, Nat.div_one, Nat.div_one]; exact H0.out), H1, H2, HB⟩
  case round =>
    clear H0 H1 H2 HB
    obtain ⟨k, hk, rfl, H0, H1, H2, HB⟩ := hrel
    by_cases hlt : k < 8
    · obtain ⟨t, ht⟩ : ∃ t : Nat, t + k = 7 := ⟨7 - k, by omega⟩
      rw [show 7 - (k : Int) = (t : Int) by omega]
      obtain ⟨c0, f0⟩ := H0.out.cell0
      obtain ⟨c1, f1⟩ := H0.out.cell1
      simp only at c0 c1
      have d0 := H2.out.cell t (by rw [rk_len]; omega)
      have g0' := H2.out.open t
      have E0 := eb_lo p k t hlt ht
      have E1 := eb_hi p k t (8 + t) hlt ht rfl
      have RS := hid (rk_set (gt (eb p)) k t (8 + t) hlt ht rfl)
      have S1 := H2.out.stored t (gt (eb p) t)
      have d1 := H2.out.cell (8 + t) (by rw [rk_len]; omega)
      have g1' := H2.out.open (8 + t)
      have S2 := (S1.stored (8 + t) (gt (eb p) (8 + t)))
      have S1B := HB.out.setCell (p := ⟨w.heap.size + 1 + 1, t, none⟩) (by show w.heap.size ≤ w.heap.size + 1 + 1; omega) (.int .u8 (gt (eb p) t : Nat))
      have S2B := (S1B.setCell (p := ⟨w.heap.size + 1 + 1, 8 + t, none⟩) (by show w.heap.size ≤ w.heap.size + 1 + 1; omega) (.int .u8 (gt (eb p) (8 + t) : Nat)))
      have S2E := ((H0.out.cfar (g' := w.heap.size + 1 + 1) (k := t) (.int .u8 (gt (eb p) t : Nat)) (by omega)).cfar (g' := w.heap.size + 1 + 1) (k := 8 + t) (.int .u8 (gt (eb p) (8 + t) : Nat)) (by omega))
      have S2R := ((H1.out.far (g' := w.heap.size + 1 + 1) (k := t) (.int .u8 (gt (eb p) t : Nat)) (by omega)).far (g' := w.heap.size + 1 + 1) (k := 8 + t) (.int .u8 (gt (eb p) (8 + t) : Nat)) (by omega))
      rw [RS.out] at S2
      clear S1 S1B RS
      generalize gt (eb p) t = x at *
      generalize gt (eb p) (8 + t) = z at *
      have P0 := hid (pow_step p.1 k)
      have P1 := hid (pow_step p.2 k)
      have q0 : p.1 / 256 ^ k < 18446744073709551616 := Nat.lt_of_le_of_lt (Nat.div_le_self _ _) HP.out.1
      have q1 : p.2 / 256 ^ k < 18446744073709551616 := Nat.lt_of_le_of_lt (Nat.div_le_self _ _) HP.out.2
      generalize p.1 / 256 ^ k = a at *
      generalize p.2 / 256 ^ k = b at *
      have e0 : (x : Int) = IntKind.u8.wrap (a : Int) := by rw [IntKind.wrap_u8']; omega
      have e1 : (z : Int) = IntKind.u8.wrap (b : Int) := by rw [IntKind.wrap_u8']; omega
      have wn : IntKind.i64.wrap (8 + (t : Int)) = 8 + (t : Int) := by rw [IntKind.wrap_i64]; omega
      have t0 : (0 : Int) ≤ (t : Int) := by omega
      have t1 : (t : Int) < 16 := by omega
      have k0 : (0 : Int) ≤ 8 + (t : Int) := by omega
      have k1 : 8 + (t : Int) < 16 := by omega
      rw [show 8 + t = (8 + (t : Int)).toNat by omega] at d1 g1' S2 S2B S2E S2R
      rw [e0, e1] at S2 S2B S2E S2R
      replace S2 := hid S2
      replace S2B := hid S2B
      replace S2E := hid S2E
      replace S2R := hid S2R
      clear e0 e1
      go_wp2_with fail
      go_region
      all_goals
        clear c0 c1 f0 f1 d0 d1 g0' g1'
        generalize (wr.setCell ⟨w.heap.size + 1 + 1, t, none⟩ (.int .u8 (IntKind.u8.wrap (a : Int)))).setCell ⟨w.heap.size + 1 + 1, (8 + (t : Int)).toNat, none⟩ (.int .u8 (IntKind.u8.wrap (b : Int))) = W at *
        obtain ⟨c0, f0⟩ := S2E.out.cell0
        obtain ⟨c1, f1⟩ := S2E.out.cell1
        simp only at c0 c1
        have U0 := hid ((S2E.out.set0 (a / 256)).set1 (b / 256))
        have U1 := hid ((S2R.out.far (g' := w.heap.size) (k := 0) (.int .u64 ((a / 256 : Nat) : Int)) (by omega)).far (g' := w.heap.size) (k := 1) (.int .u64 ((b / 256 : Nat) : Int)) (by omega))
        have U2 := hid ((S2.out.far (g' := w.heap.size) (k := 0) (.int .u64 ((a / 256 : Nat) : Int)) (by omega)).far (g' := w.heap.size) (k := 1) (.int .u64 ((b / 256 : Nat) : Int)) (by omega))
        have UB := hid ((S2B.out.setCell (p := ⟨w.heap.size, 0, none⟩) (Nat.le_refl _) (.int .u64 ((a / 256 : Nat) : Int))).setCell (p := ⟨w.heap.size, 1, none⟩) (Nat.le_refl _) (.int .u64 ((b / 256 : Nat) : Int)))
        go_wp2
        exact ⟨⟨k + 1, by omega, i64_eq (by omega), hid (by rw [← P0.out, ← P1.out]; exact U0.out.drew), hid U1.out.drew, hid U2.out.drew, hid UB.out.drew⟩, by simp [intOf]⟩
    · have hk8 : k = 8 := by omega
      subst hk8
      rw [rk_end] at H2
      have Z := hid (blk_size (eb p) (eb_len p))
      go_wp2_with (first | refine wpList_load_row rfl 39 _ rfl (w.heap.size + 1 + 1) rfl 39 (arr (eb p)) _ _ H2.out Try.underlying39 rfl Z.out ?_ | refine wpList_store_row rfl 39 _ _ rfl (w.heap.size + 1) (arr (eb p)) rfl rfl 39 _ H1.out Z.out (by rw [arr_size, arr_size, eb_len]; rfl) (arr_one _) ?_)
      exact bodyPost_ret (v := .agg (arr (eb p))) (results_cell_row rfl _ _ (w.heap.size + 1) 39 _ _ _ rfl (H1.out.row (l' := eb p)) Try.underlying39 rfl Z.out) rfl ⟨rfl, below_row HB.out (by omega) _⟩

/-- A slice that is a block. -/
theorem blkof (v : Value) (l : List Nat) (w : World) (h : Rd w v l) (hl : l.length = 16) :
    Calls Try.prog 25 #[v] w fun e w' => e = .returned (.agg (arr l)) ∧ Below w.heap.size w w' := by
  obtain ⟨b, o, cap, rfl, -, hb⟩ := h.spot (by omega)
  rw [hl] at h ⊢
  have Z := hid (blk_size l hl)
  have P2 := arr_at 39 5 16 Try.underlying39 (some ⟨b, o, none⟩) 16 cap (Nat.le_refl _)
  have R := hid (rangeAt.below (rd_range h) (below_alloc1 w (.cells (arr (zs 16)) 39)))
  have V := hid (Ar.new w 39 (zs 16))
  clear h
  go_enter Try.func25, Try.ntmps25
  go_wp2_with (first | (go_at_call 46; refine (isblk_yes _ _ _).mono ?_; rintro e w' ⟨rfl, rfl⟩) | refine load_sub rfl 39 _ rfl b o rfl l R.out _ Try.underlying39 rfl Z.out ?_ | refine wpList_store_row rfl 39 _ _ rfl w.heap.size (arr l) rfl rfl 39 _ V.out Z.out (by rw [arr_size, arr_size, hl]; rfl) (arr_one _) ?_)
  exact bodyPost_ret (v := .agg (arr l)) (results_cell_row rfl _ _ w.heap.size 39 _ _ _ rfl (V.out.row (l' := l)) Try.underlying39 rfl Z.out) rfl ⟨rfl, below_row (below_alloc1 w _) (Nat.le_refl _) _⟩

theorem blkof_no (v : Value) (l : List Nat) (w : World) (h : Rd w v l) (hl : l.length ≠ 16) :
    Calls Try.prog 25 #[v] w fun e w' => e = .panicked [{ v := .iface 9 (.string { data := #[110, 111, 32, 98, 108, 111, 99, 107] }), recovered := false }] ∧ Below w.heap.size w w' := by
  obtain ⟨p, cap, rfl, -, -, -⟩ := h.parts
  clear h
  have H := hid hl
  clear hl
  go_enter Try.func25, Try.ntmps25
  go_wp2_with (first | (go_at_call 46; refine (isblk_no _ _ _ H.out _).mono ?_; rintro e w' ⟨rfl, rfl⟩))
  exact ⟨rfl, rfl, below_alloc1 w _⟩
theorem gprod (p q : Nat × Nat) (w : World) (hp : G64 p) (hq : G64 q) :
    Calls Try.prog 72 #[.agg (ec p), .agg (ec q)] w fun e w' => e = .returned (.agg (ec (gmul q p))) ∧ Below w.heap.size w w' := by
  have V2 := heap_alloc_new ((w.alloc (.cells (ec p) 53)).alloc (.cells (ec q) 53)) (.cells (ec g0) 53)
  simp only [World.size_alloc] at V2
  have H2 := hid (show El _ _ _ from V2)
  have HB := hid (below_alloc3 w (.cells (ec p) 53) (.cells (ec q) 53) (.cells (ec g0) 53))
  clear V2
  show Calls _ _ #[.agg #[.int .u64 (p.1 : Int), .int .u64 (p.2 : Int)], .agg #[.int .u64 (q.1 : Int), .int .u64 (q.2 : Int)]] _ _
  go_enter Try.func72, Try.ntmps72
  go_wp2_with fail
  refine (gtimes p q _ hp hq).mono ?_
  rintro e w1 ⟨rfl, hB⟩
  have K2 := hid (H2.out.below hB)
  have KB := hid (HB.out.trans (hB.mono HB.out.size))
  clear hB
  go_wp2_with (refine wpList_store_row rfl 53 _ _ rfl (w.heap.size + 1 + 1) (ec (gmul q p)) rfl rfl 53 _ K2.out (ec_size _) rfl (ec_one _) ?_)
  exact bodyPost_ret (v := .agg (ec (gmul q p))) (results_cell_row rfl _ _ (w.heap.size + 1 + 1) 53 _ _ _ rfl (K2.out.row (q := gmul q p)) Try.underlying53 rfl (ec_size _)) rfl ⟨rfl, below_row KB.out (by omega) _⟩
end Go.Proofs.Ytflnhjbanlpjiai.W

namespace Go.Proofs.Ytflnhjbanlpjiai.W
open Go.ChangeShapes Go.WideShapes Go.ChangeAt Go.RowKit
open Go.Proofs.Ytflnhjbanlpjiai.M

theorem El.range {w : World} {g : Nat} {p : Nat × Nat} (h : El w g p) : w.rangeAt g 0 (ec p).toList := fun j v hv => by
  rw [cell_of_row w g (0 + j) _ _ _ h, Nat.zero_add]
  simpa using hv
theorem hsh_next (h : Nat × Nat) (hh : G64 h) (d : List Nat) (yd : Byt d) (n : Nat) : gmul h (ga (hsh h d n) (elt (sub d (16 * n) 16))) = hsh h d (n + 1) := by
  rw [hsh, gmul_comm _ _ hh (ga_64 (hsh_64 h hh d n) (elt_64 _ (sub_byt d yd _ _)))]

set_option maxHeartbeats 2000000 in
set_option maxRecDepth 100000 in
theorem hashof (h : Nat × Nat) (vd : Value) (d : List Nat) (w : World) (hd : Rd w vd d) (yd : Byt d) (hh : G64 h) (nd : d.length ≤ 1048576) (n16 : d.length % 16 = 0) :
    Calls Try.prog 59 #[.agg (ec h), vd] w fun e w' => e = .returned (.agg (arr (eb (hsh h d (d.length / 16))))) ∧ Below w.heap.size w w' := by
  obtain ⟨pd, capd, rfl, ecd, -, hcd⟩ := hd.parts
  have HD := hid hd
  have HC := hid hcd
  have HG := hid hh
  clear hd hcd hh
  have V0 := heap_alloc_new w (.cells (ec h) 53)
  have A1 := Ar.new (w.alloc (.cells (ec h) 53)) 39 (zs 16)
  have V2 := heap_alloc_new ((w.alloc (.cells (ec h) 53)).alloc (.cells (arr (zs 16)) 39)) (.cells (ec g0) 53)
  simp only [World.size_alloc] at A1 V2
  have H0 := hid (show El _ _ _ from var_alloc (.cells (ec g0) 53) (var_alloc (.cells (arr (zs 16)) 39) V0))
  have H1 := hid (A1.alloc (.cells (ec g0) 53))
  have H2 := hid (show El _ _ _ from V2)
  have HB := hid (below_alloc3 w (.cells (ec h) 53) (.cells (arr (zs 16)) 39) (.cells (ec g0) 53))
  clear V0 A1 V2
  go_enter Try.func59, Try.ntmps59
  go_wp2_with fail
  go_loopw [6, 7] (fun a6 e7 ws => ∃ n : Nat, ∃ u : Value, 16 * n ≤ d.length ∧ e7 = u ∧ a6 = .int .i64 ((16 * n : Nat) : Int) ∧ Hid (El ws w.heap.size h) ∧ Hid (Ar ws (w.heap.size + 1) 39 (zs 16)) ∧ Hid (El ws (w.heap.size + 1 + 1) (hsh h d n)) ∧ Hid (Below w.heap.size w ws)) (fun a6 _ _ => d.length - (intOf a6).toNat)
  case atStart => exact ⟨0, _, by omega, rfl, rfl, H0, H1, H2, HB⟩
  case round =>
    clear H0 H1 H2 HB
    obtain ⟨n, u, hn, rfl, rfl, H0, H1, H2, HB⟩ := hrel
    by_cases hlt : 16 * n < d.length
    · obtain ⟨b, o, rfl, -⟩ := HC.out 0 (by omega)
      have RP := run_piece b o d.length capd (16 * n) 16 (by omega) (by omega)
      have PD := hid (rd_piece (HD.out.below HB.out) (16 * n) 16 (by omega))
      have SL := hid (sub_len d (16 * n) 16 (by omega))
      have SY := hid (sub_byt d yd (16 * n) 16)
      have c1 : ((16 * n : Nat) : Int) < (d.length : Int) := by omega
      have m0 : (0 : Int) ≤ ((16 * n : Nat) : Int) := by omega
      have HM := hid (show 16 * n + 16 = 16 * (n + 1) by omega)
      have HM2 := hid (show 16 * (n + 1) ≤ d.length by omega)
      have XN := hid (hsh_next h HG.out d yd n)
      have XG := hid (hsh_64 h HG.out d n)
      have mn : min (((16 * n : Nat) : Int) + 16) (d.length : Int) = ((16 * n + 16 : Nat) : Int) := by omega
      generalize 16 * n = m at *
      generalize sub d m 16 = s at *
      generalize hsh h d n = q at *
      rw [show ((m + 16 : Nat) : Int) = (m : Int) + 16 by omega] at RP
      go_wp2_with fail
      have V5 : El wr.drew (w.heap.size + 1 + 1) q := H2.out
      have A4 : Ar wr.drew (w.heap.size + 1) 39 (zs 16) := H1.out
      have PQ : Rd wr.drew (.slice (some ⟨b, o + m, none⟩) 16 (capd - m)) s := PD.out
      refine wp_region_held_drew (S := (fun w' => Below w.heap.size w w' ∧ El w' w.heap.size h)) (by kernel_rfl) ⟨HB.out.drew, H0.out.drew⟩ (fun hH => ?_)
      refine wpAnyH_take (i := 1) (v := .slice (some ⟨b, o, none⟩) d.length capd) (by simp only [List.getElem?_toArray, List.getElem?_cons_succ, List.getElem?_cons_zero]; rfl) (by kernel_rfl) (by kernel_rfl) (by kernel_rfl) (by intro _ _ _ h; exact h) (Or.inl ⟨by rfl, fun w hS => by go_simp⟩) hH ?_
      simp only [Act.put, List.setIfInBounds_toArray, List.set_cons_zero, List.set_cons_succ]
      refine wpAnyH_take (i := 2) (v := .int .i64 (m : Int)) (by simp only [List.getElem?_toArray, List.getElem?_cons_succ, List.getElem?_cons_zero]; rfl) (by kernel_rfl) (by kernel_rfl) (by kernel_rfl) (by intro _ _ _ h; exact h) (Or.inl ⟨by rfl, fun w hS => by go_simp⟩) hH ?_
      simp only [Act.put, List.setIfInBounds_toArray, List.set_cons_zero, List.set_cons_succ]
      refine wpAnyH_take (i := 3) (v := .int .i64 ((m : Int) + 16)) (by simp only [List.getElem?_toArray, List.getElem?_cons_succ, List.getElem?_cons_zero]; rfl) (by kernel_rfl) (by kernel_rfl) (by kernel_rfl) (by intro _ _ _ h; exact h) (Or.inl ⟨by rfl, fun w hS => by go_simp⟩) hH ?_
      simp only [Act.put, List.setIfInBounds_toArray, List.set_cons_zero, List.set_cons_succ]
      refine wpAnyH_take (i := 4) (v := .slice (some ⟨b, o + m, none⟩) 16 (capd - m)) (by simp only [List.getElem?_toArray, List.getElem?_cons_succ, List.getElem?_cons_zero]; rfl) (by kernel_rfl) (by kernel_rfl) (by kernel_rfl) (by intro _ _ _ h; exact h) (Or.inl ⟨by rfl, fun w hS => by go_simp⟩) hH ?_
      simp only [Act.put, List.setIfInBounds_toArray, List.set_cons_zero, List.set_cons_succ]
      refine wpAnyH_take (i := 8) (v := .agg (ec h)) (by simp only [List.getElem?_toArray, List.getElem?_cons_succ, List.getElem?_cons_zero]; rfl) (by kernel_rfl) (by kernel_rfl) (by kernel_rfl) (by intro _ _ _ h; exact h) (Or.inl ⟨by rfl, fun w hS => by have c0 := hS.2.cell0.1; have c1 := hS.2.cell1.1; unfold ec; go_simp⟩) hH ?_
      simp only [Act.put, List.setIfInBounds_toArray, List.set_cons_zero, List.set_cons_succ]
      generalize wr.drew = x at *
      refine wpAnyH_ready (rs := [0, 5]) (by kernel_rfl) (by simp) ?_
      refine AllReadyH.cons (by simp only [List.getElem?_toArray, List.getElem?_cons_zero]; rfl) (fun K hK => ?_) ?_
      · obtain ⟨c0, -⟩ := V5.cell0
        obtain ⟨c1, -⟩ := V5.cell1
        go_simp
        refine hK.out _ _ hH (fun hH => ?_)
        clear hK K c0 c1
        refine wpAnyH_ready (rs := [5]) (by kernel_rfl) (by simp) ?_
        refine AllReadyH.cons (by simp only [List.getElem?_toArray, List.getElem?_cons_succ, List.getElem?_cons_zero]; rfl) (fun K hK => ?_) AllReadyH.nil
        go_simp
        refine (blkof _ s _ PQ SL.out).mono ?_
        rintro e x5 ⟨rfl, hM⟩
        refine hK.out _ _ ⟨hH.1.trans (hM.mono hH.1.size), hH.2.below hM⟩ (fun hH => ?_)
        clear hK K
        replace V5 := V5.below hM
        replace A4 := A4.below hM
        replace PQ := PQ.below hM
        clear hM
        refine wpAnyH_ready (rs := [6]) (by kernel_rfl) (by simp) ?_
        refine AllReadyH.cons (by simp only [List.getElem?_toArray, List.getElem?_cons_succ, List.getElem?_cons_zero]; rfl) (fun K hK => ?_) AllReadyH.nil
        go_simp
        refine (elemof s _ SL.out SY.out).mono ?_
        rintro e x6 ⟨rfl, hM⟩
        refine hK.out _ _ ⟨hH.1.trans (hM.mono hH.1.size), hH.2.below hM⟩ (fun hH => ?_)
        clear hK K
        replace V5 := V5.below hM
        replace A4 := A4.below hM
        replace PQ := PQ.below hM
        clear hM
        refine wpAnyH_ready (rs := [7]) (by kernel_rfl) (by simp) ?_
        refine AllReadyH.cons (by simp only [List.getElem?_toArray, List.getElem?_cons_succ, List.getElem?_cons_zero]; rfl) (fun K hK => ?_) AllReadyH.nil
        go_simp
        refine (gplusE q (elt s) _ XG.out (elt_64 s SY.out)).mono ?_
        rintro e x7 ⟨rfl, hM⟩
        refine hK.out _ _ ⟨hH.1.trans (hM.mono hH.1.size), hH.2.below hM⟩ (fun hH => ?_)
        clear hK K
        replace V5 := V5.below hM
        replace A4 := A4.below hM
        replace PQ := PQ.below hM
        clear hM
        refine wpAnyH_ready (rs := [9]) (by kernel_rfl) (by simp) ?_
        refine AllReadyH.cons (by simp only [List.getElem?_toArray, List.getElem?_cons_succ, List.getElem?_cons_zero]; rfl) (fun K hK => ?_) AllReadyH.nil
        go_simp
        refine (gprod (ga q (elt s)) h _ (ga_64 XG.out (elt_64 s SY.out)) HG.out).mono ?_
        rintro e x9 ⟨rfl, hM⟩
        refine hK.out _ _ ⟨hH.1.trans (hM.mono hH.1.size), hH.2.below hM⟩ (fun hH => ?_)
        clear hK K
        replace V5 := V5.below hM
        replace A4 := A4.below hM
        replace PQ := PQ.below hM
        clear hM
        rw [XN.out]
        refine wpAnyH_ready (rs := [10]) (by kernel_rfl) (by simp) ?_
        refine AllReadyH.cons (by simp only [List.getElem?_toArray, List.getElem?_cons_succ, List.getElem?_cons_zero]; rfl) (fun K hK => ?_) AllReadyH.nil
        refine step_store_row (by rfl) _ _ _ (by rfl) (w.heap.size + 1 + 1) (ec (hsh h d (n + 1))) (by rfl) (by rfl) 53 _ V5 (ec_size _) rfl (ec_one _) ?_
        have V6 := V5.row (q := hsh h d (n + 1))
        have A6 := A4.rowFar (g' := w.heap.size + 1 + 1) (ec (hsh h d (n + 1))) (by omega)
        have B6 := below_row hH.1 (g := w.heap.size + 1 + 1) (by omega) (ec (hsh h d (n + 1)))
        have E6 := hH.2.far (g' := w.heap.size + 1 + 1) (ec (hsh h d (n + 1))) (by omega)
        refine hK.out _ _ ⟨B6, E6⟩ (fun hH => ?_)
        clear hK K
        simp only [Act.put]
        refine wpAnyH_done (by kernel_rfl) ?_ _
        go_wp2_with fail
        exact ⟨⟨n + 1, _, HM2.out, rfl, i64_eq (by have := HM.out; omega), hid E6, hid A6, hid V6, hid B6⟩, by simp [intOf]; omega⟩
      refine AllReadyH.cons (by simp only [List.getElem?_toArray, List.getElem?_cons_succ, List.getElem?_cons_zero]; rfl) (fun K hK => ?_) ?_
      · go_simp
        refine (blkof _ s _ PQ SL.out).mono ?_
        rintro e x5 ⟨rfl, hM⟩
        refine hK.out _ _ ⟨hH.1.trans (hM.mono hH.1.size), hH.2.below hM⟩ (fun hH => ?_)
        clear hK K
        replace V5 := V5.below hM
        replace A4 := A4.below hM
        replace PQ := PQ.below hM
        clear hM
        refine wpAnyH_ready (rs := [0, 6]) (by kernel_rfl) (by simp) ?_
        refine AllReadyH.cons (by simp only [List.getElem?_toArray, List.getElem?_cons_zero]; rfl) (fun K hK => ?_) ?_
        · obtain ⟨c0, -⟩ := V5.cell0
          obtain ⟨c1, -⟩ := V5.cell1
          go_simp
          refine hK.out _ _ hH (fun hH => ?_)
          clear hK K c0 c1
          refine wpAnyH_ready (rs := [6]) (by kernel_rfl) (by simp) ?_
          refine AllReadyH.cons (by simp only [List.getElem?_toArray, List.getElem?_cons_succ, List.getElem?_cons_zero]; rfl) (fun K hK => ?_) AllReadyH.nil
          go_simp
          refine (elemof s _ SL.out SY.out).mono ?_
          rintro e x6 ⟨rfl, hM⟩
          refine hK.out _ _ ⟨hH.1.trans (hM.mono hH.1.size), hH.2.below hM⟩ (fun hH => ?_)
          clear hK K
          replace V5 := V5.below hM
          replace A4 := A4.below hM
          replace PQ := PQ.below hM
          clear hM
          refine wpAnyH_ready (rs := [7]) (by kernel_rfl) (by simp) ?_
          refine AllReadyH.cons (by simp only [List.getElem?_toArray, List.getElem?_cons_succ, List.getElem?_cons_zero]; rfl) (fun K hK => ?_) AllReadyH.nil
          go_simp
          refine (gplusE q (elt s) _ XG.out (elt_64 s SY.out)).mono ?_
          rintro e x7 ⟨rfl, hM⟩
          refine hK.out _ _ ⟨hH.1.trans (hM.mono hH.1.size), hH.2.below hM⟩ (fun hH => ?_)
          clear hK K
          replace V5 := V5.below hM
          replace A4 := A4.below hM
          replace PQ := PQ.below hM
          clear hM
          refine wpAnyH_ready (rs := [9]) (by kernel_rfl) (by simp) ?_
          refine AllReadyH.cons (by simp only [List.getElem?_toArray, List.getElem?_cons_succ, List.getElem?_cons_zero]; rfl) (fun K hK => ?_) AllReadyH.nil
          go_simp
          refine (gprod (ga q (elt s)) h _ (ga_64 XG.out (elt_64 s SY.out)) HG.out).mono ?_
          rintro e x9 ⟨rfl, hM⟩
          refine hK.out _ _ ⟨hH.1.trans (hM.mono hH.1.size), hH.2.below hM⟩ (fun hH => ?_)
          clear hK K
          replace V5 := V5.below hM
          replace A4 := A4.below hM
          replace PQ := PQ.below hM
          clear hM
          rw [XN.out]
          refine wpAnyH_ready (rs := [10]) (by kernel_rfl) (by simp) ?_
          refine AllReadyH.cons (by simp only [List.getElem?_toArray, List.getElem?_cons_succ, List.getElem?_cons_zero]; rfl) (fun K hK => ?_) AllReadyH.nil
          refine step_store_row (by rfl) _ _ _ (by rfl) (w.heap.size + 1 + 1) (ec (hsh h d (n + 1))) (by rfl) (by rfl) 53 _ V5 (ec_size _) rfl (ec_one _) ?_
          have V6 := V5.row (q := hsh h d (n + 1))
          have A6 := A4.rowFar (g' := w.heap.size + 1 + 1) (ec (hsh h d (n + 1))) (by omega)
          have B6 := below_row hH.1 (g := w.heap.size + 1 + 1) (by omega) (ec (hsh h d (n + 1)))
          have E6 := hH.2.far (g' := w.heap.size + 1 + 1) (ec (hsh h d (n + 1))) (by omega)
          refine hK.out _ _ ⟨B6, E6⟩ (fun hH => ?_)
          clear hK K
          simp only [Act.put]
          refine wpAnyH_done (by kernel_rfl) ?_ _
          go_wp2_with fail
          exact ⟨⟨n + 1, _, HM2.out, rfl, i64_eq (by have := HM.out; omega), hid E6, hid A6, hid V6, hid B6⟩, by simp [intOf]; omega⟩
        refine AllReadyH.cons (by simp only [List.getElem?_toArray, List.getElem?_cons_succ, List.getElem?_cons_zero]; rfl) (fun K hK => ?_) ?_
        · go_simp
          refine (elemof s _ SL.out SY.out).mono ?_
          rintro e x6 ⟨rfl, hM⟩
          refine hK.out _ _ ⟨hH.1.trans (hM.mono hH.1.size), hH.2.below hM⟩ (fun hH => ?_)
          clear hK K
          replace V5 := V5.below hM
          replace A4 := A4.below hM
          replace PQ := PQ.below hM
          clear hM
          refine wpAnyH_ready (rs := [0]) (by kernel_rfl) (by simp) ?_
          refine AllReadyH.cons (by simp only [List.getElem?_toArray, List.getElem?_cons_zero]; rfl) (fun K hK => ?_) AllReadyH.nil
          obtain ⟨c0, -⟩ := V5.cell0
          obtain ⟨c1, -⟩ := V5.cell1
          go_simp
          refine hK.out _ _ hH (fun hH => ?_)
          clear hK K c0 c1
          refine wpAnyH_ready (rs := [7]) (by kernel_rfl) (by simp) ?_
          refine AllReadyH.cons (by simp only [List.getElem?_toArray, List.getElem?_cons_succ, List.getElem?_cons_zero]; rfl) (fun K hK => ?_) AllReadyH.nil
          go_simp
          refine (gplusE q (elt s) _ XG.out (elt_64 s SY.out)).mono ?_
          rintro e x7 ⟨rfl, hM⟩
          refine hK.out _ _ ⟨hH.1.trans (hM.mono hH.1.size), hH.2.below hM⟩ (fun hH => ?_)
          clear hK K
          replace V5 := V5.below hM
          replace A4 := A4.below hM
          replace PQ := PQ.below hM
          clear hM
          refine wpAnyH_ready (rs := [9]) (by kernel_rfl) (by simp) ?_
          refine AllReadyH.cons (by simp only [List.getElem?_toArray, List.getElem?_cons_succ, List.getElem?_cons_zero]; rfl) (fun K hK => ?_) AllReadyH.nil
          go_simp
          refine (gprod (ga q (elt s)) h _ (ga_64 XG.out (elt_64 s SY.out)) HG.out).mono ?_
          rintro e x9 ⟨rfl, hM⟩
          refine hK.out _ _ ⟨hH.1.trans (hM.mono hH.1.size), hH.2.below hM⟩ (fun hH => ?_)
          clear hK K
          replace V5 := V5.below hM
          replace A4 := A4.below hM
          replace PQ := PQ.below hM
          clear hM
          rw [XN.out]
          refine wpAnyH_ready (rs := [10]) (by kernel_rfl) (by simp) ?_
          refine AllReadyH.cons (by simp only [List.getElem?_toArray, List.getElem?_cons_succ, List.getElem?_cons_zero]; rfl) (fun K hK => ?_) AllReadyH.nil
          refine step_store_row (by rfl) _ _ _ (by rfl) (w.heap.size + 1 + 1) (ec (hsh h d (n + 1))) (by rfl) (by rfl) 53 _ V5 (ec_size _) rfl (ec_one _) ?_
          have V6 := V5.row (q := hsh h d (n + 1))
          have A6 := A4.rowFar (g' := w.heap.size + 1 + 1) (ec (hsh h d (n + 1))) (by omega)
          have B6 := below_row hH.1 (g := w.heap.size + 1 + 1) (by omega) (ec (hsh h d (n + 1)))
          have E6 := hH.2.far (g' := w.heap.size + 1 + 1) (ec (hsh h d (n + 1))) (by omega)
          refine hK.out _ _ ⟨B6, E6⟩ (fun hH => ?_)
          clear hK K
          simp only [Act.put]
          refine wpAnyH_done (by kernel_rfl) ?_ _
          go_wp2_with fail
          exact ⟨⟨n + 1, _, HM2.out, rfl, i64_eq (by have := HM.out; omega), hid E6, hid A6, hid V6, hid B6⟩, by simp [intOf]; omega⟩
        exact AllReadyH.nil
      exact AllReadyH.nil
    · have c1 : ¬ ((16 * n : Nat) : Int) < (d.length : Int) := by omega
      have m0 : (0 : Int) ≤ ((16 * n : Nat) : Int) := by omega
      have E := hid (show d.length / 16 = n by omega)
      have XG := hid (hsh_64 h HG.out d n)
      generalize 16 * n = m at *
      go_wp2_with (refine wpList_load_row rfl 53 _ rfl (w.heap.size + 1 + 1) rfl 53 (ec (hsh h d n)) _ _ H2.out Try.underlying53 rfl (ec_size _) ?_)
      refine (blkofel (hsh h d n) _ XG.out).mono ?_
      rintro e w1 ⟨rfl, B1⟩
      have K1 := hid (H1.out.below B1)
      have KB := hid (HB.out.trans (B1.mono HB.out.size))
      have Z := hid (blk_size (eb (hsh h d n)) (eb_len _))
      go_wp2_with (refine wpList_store_row rfl 39 _ _ rfl (w.heap.size + 1) (arr (eb (hsh h d n))) rfl rfl 39 _ K1.out Z.out (by rw [arr_size, arr_size, eb_len]; rfl) (arr_one _) ?_)
      exact bodyPost_ret (v := .agg (arr (eb (hsh h d n)))) (results_cell_row rfl _ _ (w.heap.size + 1) 39 _ _ _ rfl (K1.out.row (l' := eb (hsh h d n))) Try.underlying39 rfl Z.out) rfl ⟨by rw [E.out], below_row KB.out (by omega) _⟩
end Go.Proofs.Ytflnhjbanlpjiai.W

namespace Go.Proofs.Ytflnhjbanlpjiai.W
open Go.ChangeShapes Go.WideShapes Go.ChangeAt Go.RowKit
open Go.Proofs.Ytflnhjbanlpjiai.M

set_option maxHeartbeats 1000000 in
set_option maxRecDepth 100000 in
theorem ihide (gc : Nat) (h : Nat × Nat) (n : List Nat) (vd : Value) (d : List Nat) (F : Nat → Nat) (w : World) (hC : Ar w gc 73 (cph F 176)) (hF : ∀ j, F j < 256) (hn : n.length = 12) (yn : Byt n) (hd : Rd w vd d) (yd : Byt d) (nd : d.length ≤ 1048576) :
    Calls Try.prog 39 #[.agg (sc gc h (jb n)), vd] w fun e w' => ∃ v, e = .returned v ∧ Own w' w.heap.size v (hid1 F n d) ∧ Below w.heap.size w w' := by
  obtain ⟨pd, capd, rfl, -, -, -⟩ := hd.parts
  have HC := hid hC
  have HF := hid hF
  have HD := hid hd
  have JL := hid (jb_len n hn)
  have JY := hid (jb_byt n yn)
  have ZB := hid (blk_size (jb n) JL.out)
  have S0 := hid (show Sv _ _ _ _ _ from heap_alloc_new w (.cells (sc gc h (jb n)) 55))
  have B0 := below_alloc1 w (.cells (sc gc h (jb n)) 55)
  have CL := hid hC.lt
  clear hC hF hd hn
  go_enter Try.func39, Try.ntmps39
  go_wp2_with fail
  generalize w.alloc (.cells (sc gc h (jb n)) 55) = W at *
  refine wp_region_held_drew (S := fun w' => Below w.heap.size w w' ∧ Sv w' w.heap.size gc h (jb n)) (by kernel_rfl) ⟨B0.drew, S0.out⟩ (fun hH => ?_)
  refine wpAnyH_take (i := 0) (v := .pointer (some ⟨w.heap.size, 0, none⟩)) (by simp only [List.getElem?_toArray, List.getElem?_cons_zero]; rfl) (by kernel_rfl) (by kernel_rfl) (by kernel_rfl) (by intro _ _ _ h; exact h) (Or.inl ⟨by rfl, fun w hS => by go_simp⟩) hH ?_
  simp only [Act.put, List.setIfInBounds_toArray, List.set_cons_zero, List.set_cons_succ]
  refine wpAnyH_take (i := 1) (v := .pointer (some ⟨gc, 0, none⟩)) (by simp only [List.getElem?_toArray, List.getElem?_cons_succ, List.getElem?_cons_zero]; rfl) (by kernel_rfl) (by kernel_rfl) (by kernel_rfl) (by intro _ _ _ h; exact h) (Or.inl ⟨by rfl, fun w hS => by have c := hS.2.c0; go_simp⟩) hH ?_
  simp only [Act.put, List.setIfInBounds_toArray, List.set_cons_zero, List.set_cons_succ]
  refine wpAnyH_take (i := 2) (v := .pointer (some ⟨w.heap.size, 3, none⟩)) (by simp only [List.getElem?_toArray, List.getElem?_cons_succ, List.getElem?_cons_zero]; rfl) (by kernel_rfl) (by kernel_rfl) (by kernel_rfl) (by intro _ _ _ h; exact h) (Or.inl ⟨by rfl, fun w hS => by go_simp⟩) hH ?_
  simp only [Act.put, List.setIfInBounds_toArray, List.set_cons_zero, List.set_cons_succ]
  refine wpAnyH_take (i := 3) (v := .agg (arr (jb n))) (by simp only [List.getElem?_toArray, List.getElem?_cons_succ, List.getElem?_cons_zero]; rfl) (by kernel_rfl) (by kernel_rfl) (by kernel_rfl) (by intro _ _ _ h; exact h) (yieldsIf_load_mid (by rfl) _ _ rfl w.heap.size 3 rfl ((jb n).map bv) _ (fun w hS => hS.2.range) Try.underlying39 rfl (by rw [List.length_map, ← arr_size]; exact ZB.out)) hH ?_
  simp only [Act.put, List.setIfInBounds_toArray, List.set_cons_zero, List.set_cons_succ]
  refine wpAnyH_take (i := 5) (v := .slice pd d.length capd) (by simp only [List.getElem?_toArray, List.getElem?_cons_succ, List.getElem?_cons_zero]; rfl) (by kernel_rfl) (by kernel_rfl) (by kernel_rfl) (by intro _ _ _ h; exact h) (Or.inl ⟨by rfl, fun w hS => by go_simp⟩) hH ?_
  simp only [Act.put, List.setIfInBounds_toArray, List.set_cons_zero, List.set_cons_succ]
  generalize W.drew = x at hH ⊢
  refine wpAnyH_ready (rs := [4]) (by kernel_rfl) (by simp) ?_
  refine AllReadyH.cons (by simp only [List.getElem?_toArray, List.getElem?_cons_succ, List.getElem?_cons_zero]; rfl) (fun K hK => ?_) AllReadyH.nil
  go_simp
  refine (counted (jb n) _ JL.out JY.out).mono ?_
  rintro e x4 ⟨rfl, hM⟩
  refine hK.out _ _ ⟨hH.1.trans (hM.mono hH.1.size), hH.2.below hM⟩ (fun hH => ?_)
  clear hK K hM
  refine wpAnyH_ready (rs := [6]) (by kernel_rfl) (by simp) ?_
  refine AllReadyH.cons (by simp only [List.getElem?_toArray, List.getElem?_cons_succ, List.getElem?_cons_zero]; rfl) (fun K hK => ?_) AllReadyH.nil
  go_simp
  refine (istream gc (cu (jb n)) _ d F _ (HC.out.keep hH.1 CL.out) HF.out (cu_len _ JL.out) (cu_byt _ JY.out) (HD.out.below hH.1) yd nd).mono ?_
  rintro e x6 ⟨rfl, O, hM⟩
  have O2 := hid (O.mono (base' := w.heap.size) hH.1.size)
  refine hK.out _ _ ⟨hH.1.trans (hM.mono hH.1.size), hH.2.below hM⟩ (fun hH => ?_)
  clear hK K hM O
  refine wpAnyH_ready (rs := [7]) (by kernel_rfl) (by simp) ?_
  refine AllReadyH.cons (by simp only [List.getElem?_toArray, List.getElem?_cons_succ, List.getElem?_cons_zero]; rfl) (fun K hK => ?_) AllReadyH.nil
  go_simp
  refine hK.out _ _ hH (fun hH => ?_)
  clear hK K
  refine wpAnyH_done (by kernel_rfl) ?_ _
  go_wp2
  go_ret
  exact ⟨_, rfl, O2.out, hH.1⟩

set_option maxHeartbeats 2000000 in
set_option maxRecDepth 100000 in
theorem itag (gc : Nat) (n : List Nat) (ve vc : Value) (e c : List Nat) (F : Nat → Nat) (w : World) (hC : Ar w gc 73 (cph F 176)) (hF : ∀ j, F j < 256) (hn : n.length = 12) (yn : Byt n) (he : Rd w ve e) (hc : Rd w vc c) (ye : Byt e) (yc : Byt c) (ne : e.length ≤ 101) (nc : c.length ≤ 700) :
    Calls Try.prog 40 #[.agg (sc gc (elt (enc F (zs 16))) (jb n)), ve, vc] w fun r w' => r = .returned (.agg (arr (tg F n e c))) ∧ Below w.heap.size w w' := by
  obtain ⟨p1, c1, rfl, -, -, -⟩ := he.parts
  obtain ⟨p2, c2, rfl, -, -, -⟩ := hc.parts
  have HC := hid hC
  have CL := hid hC.lt
  have HE := hid he
  have HH := hid hc
  have NE := hid ne
  have NC := hid nc
  have JL := hid (jb_len n hn)
  have JY := hid (jb_byt n yn)
  have TL := hid (tg_len F n e c hn)
  have LE := hid (whole_len e)
  have LC := hid (whole_len c)
  have WM := hid (whole_mod e)
  have s0 := heap_alloc_new w (.cells (sc gc (elt (enc F (zs 16))) (jb n)) 55)
  have a1 := heap_alloc_new (w.alloc (.cells (sc gc (elt (enc F (zs 16))) (jb n)) 55)) (.cells #[.int .u8 0, .int .u8 0, .int .u8 0, .int .u8 0, .int .u8 0, .int .u8 0, .int .u8 0, .int .u8 0, .int .u8 0, .int .u8 0, .int .u8 0, .int .u8 0, .int .u8 0, .int .u8 0, .int .u8 0, .int .u8 0] 39)
  simp only [World.size_alloc] at a1
  have S0 := hid (show Sv _ _ _ _ _ from var_alloc (.cells #[.int .u8 0, .int .u8 0, .int .u8 0, .int .u8 0, .int .u8 0, .int .u8 0, .int .u8 0, .int .u8 0, .int .u8 0, .int .u8 0, .int .u8 0, .int .u8 0, .int .u8 0, .int .u8 0, .int .u8 0, .int .u8 0] 39) s0)
  have A0 := hid (show Ar _ _ 39 (zs 16) from a1)
  have B0 := hid (below_alloc2 w (.cells (sc gc (elt (enc F (zs 16))) (jb n)) 55) (.cells #[.int .u8 0, .int .u8 0, .int .u8 0, .int .u8 0, .int .u8 0, .int .u8 0, .int .u8 0, .int .u8 0, .int .u8 0, .int .u8 0, .int .u8 0, .int .u8 0, .int .u8 0, .int .u8 0, .int .u8 0, .int .u8 0] 39))
  clear hC he hc hn ne nc s0 a1
  go_enter Try.func40, Try.ntmps40
  go_wp2_with fail
  generalize (w.alloc (.cells (sc gc (elt (enc F (zs 16))) (jb n)) 55)).alloc (.cells #[.int .u8 0, .int .u8 0, .int .u8 0, .int .u8 0, .int .u8 0, .int .u8 0, .int .u8 0, .int .u8 0, .int .u8 0, .int .u8 0, .int .u8 0, .int .u8 0, .int .u8 0, .int .u8 0, .int .u8 0, .int .u8 0] 39) = W at *
  have ZW := hid B0.out.size
  have WL := hid (var_lt A0.out)
  have SLt := hid (var_lt S0.out)
  refine (awhole _ _ [] e W.heap.size _ (Own.nil _ _) (HE.out.below B0.out) (Nat.le_refl _) (by simp) (by have := NE.out; omega) (by rfl)).mono ?_
  rintro r w1 ⟨v1, rfl, O1, hM⟩
  rw [List.nil_append] at O1
  replace O1 := hid O1
  have H1 := hid hM
  have B1 := hid (B0.out.trans (hM.mono ZW.out))
  clear hM
  go_wp2_with fail
  refine (awhole _ _ (whole e) c W.heap.size _ O1.out (HH.out.below B1.out) H1.out.size (by rw [LE.out]; have := NE.out; omega) (by have := NC.out; omega) WM.out).mono ?_
  rintro r w2 ⟨v2, rfl, O2, hM⟩
  replace O2 := hid O2
  have H2 := hid (H1.out.trans hM)
  have B2 := hid (B1.out.trans (hM.mono ZW.out))
  clear hM O1 H1 B1
  go_wp2_with fail
  refine (lenbits _ e.length _ _ (by have := NE.out; omega)).mono ?_
  rintro r w3 ⟨v3, rfl, O3, hM⟩
  have P3 := hid (O2.out.below hM)
  have R3 := hid O3.rd
  have H3 := hid (H2.out.trans (hM.mono H2.out.size))
  have B3 := hid (B2.out.trans (hM.mono B2.out.size))
  clear hM O2 H2 B2 O3
  go_wp2_with (at_builtin; refine list_app rfl _ _ rfl _ _ (whole e ++ whole c) (packL (8 * e.length) 8) W.heap.size rfl rfl P3.out R3.out (by rw [List.length_append, packL_len, LE.out, LC.out]; have := NE.out; have := NC.out; omega) (H3.out.size) ?_; intro v4 w4 O4 G4)
  have H4 := hid (H3.out.grown G4 H3.out.size (P3.out.row (Nat.le_refl _)))
  have B4 := hid (B3.out.grown G4 B3.out.size (P3.out.row ZW.out))
  replace O4 := hid O4
  clear G4 P3 R3 H3 B3
  refine (lenbits _ c.length _ _ (by have := NC.out; omega)).mono ?_
  rintro r w5 ⟨v5, rfl, O5, hM⟩
  have P5 := hid (O4.out.below hM)
  have R5 := hid O5.rd
  have H5 := hid (H4.out.trans (hM.mono H4.out.size))
  have B5 := hid (B4.out.trans (hM.mono B4.out.size))
  clear hM O4 H4 B4 O5
  have ZB := hid (blk_size (jb n) JL.out)
  have U1 := hid (fun (w6 : World) (q : Below W.heap.size W w6) => (S0.out.below q).c0)
  have U2 := hid (fun (w6 : World) (q : Below W.heap.size W w6) => (S0.out.below q).range)
  go_wp2_with (first | (at_builtin; refine list_app rfl _ _ rfl _ _ (whole e ++ whole c ++ packL (8 * e.length) 8) (packL (8 * c.length) 8) W.heap.size rfl rfl P5.out R5.out (by rw [List.length_append, List.length_append, packL_len, packL_len, LE.out, LC.out]; have := NE.out; have := NC.out; omega) (H5.out.size) ?_; intro v6 w6 O6 G6; have H6 := hid (H5.out.grown G6 H5.out.size (P5.out.row (Nat.le_refl _))); have B6 := hid (B5.out.grown G6 B5.out.size (P5.out.row ZW.out)); replace O6 := hid (show Own w6 W.heap.size v6 (thash e c) from O6); clear G6 P5 R5 H5 B5; have cc := U1.out w6 H6.out) | refine load_sub rfl 39 _ rfl w.heap.size 3 rfl (jb n) (U2.out _ H6.out) _ Try.underlying39 rfl ZB.out ?_)
  refine (encr (jb n) F gc _ JL.out JY.out hF (HC.out.keep B6.out CL.out)).mono ?_
  rintro r w7 ⟨rfl, hM⟩
  have O7 := hid (O6.out.below hM)
  have H7 := hid (H6.out.trans (hM.mono H6.out.size))
  have B7 := hid (B6.out.trans (hM.mono B6.out.size))
  clear hM O6 H6 B6 cc
  have EL := hid (show (enc F (jb n)).length = 16 from stt_len F _ JL.out 10)
  have EY := hid (show Byt (enc F (jb n)) from stt_byt F hF _ JY.out 10)
  have ZE := hid (blk_size (enc F (jb n)) EL.out)
  have X7 := hid (show Ar _ _ 39 (zs 16) from heap_alloc_new w7 (.cells #[.int .u8 0, .int .u8 0, .int .u8 0, .int .u8 0, .int .u8 0, .int .u8 0, .int .u8 0, .int .u8 0, .int .u8 0, .int .u8 0, .int .u8 0, .int .u8 0, .int .u8 0, .int .u8 0, .int .u8 0, .int .u8 0] 39))
  have X8 := hid (X7.out.row (l' := enc F (jb n)))
  have hN := below_row (below_alloc1 w7 (.cells #[.int .u8 0, .int .u8 0, .int .u8 0, .int .u8 0, .int .u8 0, .int .u8 0, .int .u8 0, .int .u8 0, .int .u8 0, .int .u8 0, .int .u8 0, .int .u8 0, .int .u8 0, .int .u8 0, .int .u8 0, .int .u8 0] 39)) (g := w7.heap.size) (Nat.le_refl _) (arr (enc F (jb n)))
  have O8 := hid (O7.out.below hN)
  have H8 := hid (H7.out.trans (hN.mono H7.out.size))
  have B8 := hid (B7.out.trans (hN.mono B7.out.size))
  have d1 := (S0.out.below H8.out).c1
  have d2 := (S0.out.below H8.out).c2
  have ZG := hid H7.out.size
  clear hN
  go_wp2_with (refine wpList_store_row rfl 39 _ _ rfl w7.heap.size (arr (enc F (jb n))) rfl rfl 39 _ X7.out ZE.out (by rw [arr_size, arr_size, zs_len, EL.out]) (arr_one _) ?_; generalize ((w7.alloc (.cells #[.int .u8 0, .int .u8 0, .int .u8 0, .int .u8 0, .int .u8 0, .int .u8 0, .int .u8 0, .int .u8 0, .int .u8 0, .int .u8 0, .int .u8 0, .int .u8 0, .int .u8 0, .int .u8 0, .int .u8 0, .int .u8 0] 39)).setRow w7.heap.size (arr (enc F (jb n)))) = Y at *)
  refine (hashof (elt (enc F (zs 16))) _ (thash e c) _ O8.out.rd (thash_byt e c ye yc) (elt_64 _ (stt_byt F hF _ (zs_byt 16) 10)) (by rw [thash_len, LE.out, LC.out]; have := NE.out; have := NC.out; omega) (thash_mod e c)).mono ?_
  rintro r w9 ⟨rfl, hM⟩
  have X9 := hid (X8.out.below hM)
  have H9 := hid (H8.out.trans (hM.mono H8.out.size))
  have B9 := hid (B8.out.trans (hM.mono B8.out.size))
  clear hM O7 O8 H7 B7 H8 B8 X7 X8 d1 d2
  generalize w7.heap.size = gt0 at *
  go_wp2_with fail
  refine (addm gt0 (enc F (jb n)) (hshB (enc F (zs 16)) (thash e c)) _ EL.out (hshB_len _ _) EY.out (hshB_byt _ _) X9.out).mono ?_
  rintro r w10 ⟨rfl, X10, G10⟩
  replace X10 := hid (show Ar w10 gt0 39 (tg F n e c) from X10)
  have A10 := hid (show Ar w10 (w.heap.size + 1) 39 (zs 16) from var_grown G10 (A0.out.below H9.out) (by intro q; have h1 := ZG.out; have h2 := WL.out; cases q; omega))
  have B10 := hid (B9.out.grown G10 B9.out.size (fun k q => by cases q; have h1 := ZG.out; have h2 := ZW.out; omega))
  have ZT := hid (blk_size (tg F n e c) TL.out)
  clear G10 X9 H9 B9
  go_wp2_with (first | refine wpList_load_row rfl 39 _ rfl gt0 rfl 39 (arr (tg F n e c)) _ _ X10.out Try.underlying39 rfl ZT.out ?_ | refine wpList_store_row rfl 39 _ _ rfl (w.heap.size + 1) (arr (tg F n e c)) rfl rfl 39 _ A10.out ZT.out (by rw [arr_size, arr_size, zs_len, TL.out]) (arr_one _) ?_)
  exact bodyPost_ret (v := .agg (arr (tg F n e c))) (results_cell_row rfl _ _ (w.heap.size + 1) 39 _ _ _ rfl (A10.out.row (l' := tg F n e c)) Try.underlying39 rfl ZT.out) rfl ⟨rfl, below_row B10.out (by omega) _⟩
end Go.Proofs.Ytflnhjbanlpjiai.W

namespace Go.Proofs.Ytflnhjbanlpjiai.W
open Go.ChangeShapes Go.WideShapes Go.ChangeAt Go.RowKit
open Go.Proofs.Ytflnhjbanlpjiai.M

theorem iskey (a : Option Addr) (n cap : Nat) (w : World) :
    Calls Try.prog 31 #[.slice a n cap] w fun e w' => e = .returned (.bool ((n : Int) == 16)) ∧ w' = w := by
  go_enter Try.func31, Try.ntmps31
  go_wp2
  go_ret
  exact ⟨rfl, rfl⟩
theorem iskey_yes (a : Option Addr) (cap : Nat) (w : World) :
    Calls Try.prog 31 #[.slice a 16 cap] w fun e w' => e = .returned (.bool true) ∧ w' = w := iskey a 16 cap w
theorem iskey_no (a : Option Addr) (n cap : Nat) (hn : n ≠ 16) (w : World) :
    Calls Try.prog 31 #[.slice a n cap] w fun e w' => e = .returned (.bool false) ∧ w' = w := by
  have h := iskey a n cap w
  rw [show ((n : Int) == 16) = false by simp; omega] at h
  exact h
end Go.Proofs.Ytflnhjbanlpjiai.W

namespace Go.Proofs.Ytflnhjbanlpjiai.W
open Go.ChangeShapes Go.WideShapes Go.ChangeAt Go.RowKit
open Go.Proofs.Ytflnhjbanlpjiai.M

set_option maxRecDepth 100000 in
theorem sfits (p1 p2 p3 : Option Addr) (c1 c2 c3 : Nat) (k n e : List Nat) (w : World) :
    Calls Try.prog 37 #[.slice p1 k.length c1, .slice p2 n.length c2, .slice p3 e.length c3] w fun r w' => r = .returned (.bool (askd k n e)) ∧ Below w.heap.size w w' := by
  by_cases h1 : k.length = 16
  · by_cases h2 : n.length = 12
    · have E := hid (show inB (e.length : Int) 0 100 = askd k n e by
        unfold inB askd
        by_cases h3 : e.length ≤ 100
        · rw [decide_eq_true (by omega), decide_eq_true ⟨h1, h2, h3⟩]
        · rw [decide_eq_false (by omega), decide_eq_false (fun h => h3 h.2.2)])
      have d2 : ((n.length : Int) == 12) = true := by rw [h2]; rfl
      rw [h1]
      clear h1 h2
      go_enter Try.func37, Try.ntmps37
      go_wp2_with fail
      refine (iskey_yes _ _ _).mono ?_
      rintro r W ⟨rfl, rfl⟩
      go_wp2_with fail
      refine (within1 (e.length : Int) 0 100 W.heap.size _ (heap_alloc_new W _)).mono ?_
      rintro r w3 ⟨rfl, hM⟩
      rw [E.out]
      replace hM := hid ((below_alloc1 W (.cells #[.int .i64 (e.length : Int), .int .i64 0, .int .i64 100] 46)).trans (hM.mono (by simp)))
      go_wp2
      go_ret
      exact ⟨rfl, hM.out⟩
    · have E := hid (show askd k n e = false by unfold askd; rw [decide_eq_false (fun h => h2 h.2.1)])
      have d2 : ((n.length : Int) == 12) = false := by rw [beq_eq_false_iff_ne]; omega
      rw [h1]
      clear h1 h2
      go_enter Try.func37, Try.ntmps37
      go_wp2_with fail
      refine (iskey_yes _ _ _).mono ?_
      rintro r W ⟨rfl, rfl⟩
      go_wp2
      go_ret
      exact ⟨ret_b E.out.symm, Below.refl _ _⟩
  · have E := hid (show askd k n e = false by unfold askd; rw [decide_eq_false (fun h => h1 h.1)])
    have H1 := hid h1
    clear h1
    go_enter Try.func37, Try.ntmps37
    go_wp2_with fail
    refine (iskey_no _ _ _ H1.out _).mono ?_
    rintro r W ⟨rfl, rfl⟩
    go_wp2
    go_ret
    exact ⟨ret_b E.out.symm, Below.refl _ _⟩
end Go.Proofs.Ytflnhjbanlpjiai.W

namespace Go.Proofs.Ytflnhjbanlpjiai.W
open Go.ChangeShapes Go.WideShapes Go.ChangeAt Go.RowKit
open Go.Proofs.Ytflnhjbanlpjiai.M

theorem part_at (a : List Nat) (i : Nat) (h : i < a.length) (w : World) : (part 5 (arr a) (i * 1)).run Try.prog w = .ok (.int .u8 (gt a i : Nat)) w := by
  have h2 : (arr a)[i]? = some (.int .u8 (gt a i : Nat)) := arr_get a i h
  rw [Nat.mul_one]
  simp [part, h2, go_sem]
theorem eq_u8 (a b : Int) (w : World) : (Op.equalIn 9999 5 (.int .u8 a) (.int .u8 b)).run Try.prog w = .ok (a == b) w := run_equalIn_int w 9998 5 .u8 .u8 a b Try.underlying5
theorem one_u8 (w : World) : (sizeOf 5).run Try.prog w = .ok 1 w := by simp [go_sem]
theorem all_gt : ∀ (a b : List Nat), a.length = b.length → ((List.range a.length).all fun i => gt a i == gt b i) = (a == b)
  | [], [], _ => rfl
  | x :: a, y :: b, h => by
    have ih := all_gt a b (by simpa using h)
    rw [List.length_cons, List.range_succ_eq_map, List.all_cons, List.all_map]
    simp only [gt, List.getD_cons_zero, Function.comp_def, List.getD_cons_succ] at ih ⊢
    rw [ih]
    simp [List.cons_beq_cons]
  | [], _ :: _, h => by simp at h
  | _ :: _, [], h => by simp at h
theorem eq_blk (a b : List Nat) (ha : a.length = 16) (hb : b.length = 16) (w : World) : (Op.equalIn 10000 39 (.agg (arr a)) (.agg (arr b))).run Try.prog w = .ok (a == b) w := by
  have hu : Try.prog.underlying 39 = some (.array 16 5) := Try.underlying39
  rw [← all_gt a b (ha.trans hb.symm), ha, List.range_eq_range', Op.equalIn]
  simp only [Sem.run_bind, run_underlying hu, Result.andThen_ok, one_u8, Std.Legacy.Range.forIn_eq_forIn_range', Std.Legacy.Range.size, Nat.sub_zero, Nat.add_sub_cancel, Nat.div_one]
  have hl : ∀ i ∈ List.range' 0 16 1, i < 16 := fun i hi => by simpa using (List.mem_range'_1.1 hi).2
  generalize List.range' 0 16 1 = l at hl ⊢
  induction l with
  | nil => simp
  | cons i l ih =>
    have hi : i < 16 := hl i (by simp)
    have pe : (Op.equalIn 9999 5 (.int .u8 (gt a i : Nat)) (.int .u8 (gt b i : Nat))).run Try.prog w = .ok (gt a i == gt b i) w := by
      rw [eq_u8]
      congr 1
      rw [Bool.eq_iff_iff]
      simp only [beq_iff_eq]
      omega
    simp only [List.forIn_cons, Sem.run_bind, part_at a i (by omega), part_at b i (by omega), pe, Result.andThen_ok, List.all_cons]
    cases hb : (gt a i == gt b i)
    · simp
    · simp only [Bool.not_true, Bool.false_eq_true, if_false, Sem.run_pure, Result.andThen_ok, Bool.true_and]
      exact ih fun j hj => hl j (by simp [hj])
theorem neq_blk (a b : List Nat) (ha : a.length = 16) (hb : b.length = 16) (w : World) : (binOp .neq 39 (.agg (arr a)) (.agg (arr b))).run Try.prog w = .ok (.bool (!(a == b))) w := by
  rw [run_neq_struct, eq_blk a b ha hb]
  rfl
theorem guard_blk : Try.prog.eqGuardType Try.prog.depth 39 = false := by kernel_rfl
end Go.Proofs.Ytflnhjbanlpjiai.W
