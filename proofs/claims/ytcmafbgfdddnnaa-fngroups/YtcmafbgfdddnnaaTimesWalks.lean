/-
  Products of group elements: the program's times, groupProduct.
-/
import Derived.Test.YtcmafbgfdddnnaaPlusWalks
import Derived.Test.YtcmafbgfdddnnaaSlX
namespace Go.Proofs.Ytcmafbgfdddnnaa.W
open Go.ChangeShapes Go.WideShapes Go.ChangeAt Go.RowKit
open Go.Proofs.Ytcmafbgfdddnnaa.M

theorem idx_two (a b : Int) (n : Nat) (hn : n < 2) (w : World) :
    (Instr.index 110 (.agg #[.int .u64 a, .int .u64 b]) (.int .i64 (n : Int))).run Try.prog w = .ok (.int .u64 (if n = 0 then a else b)) w := by
  have hu : Try.prog.underlying 110 = some (.array 2 85) := Try.underlying110
  rcases (show n = 0 ∨ n = 1 by omega) with rfl | rfl
  · simp [Instr.index, run_underlying hu, asIntOf, part, go_sem]
  · simp [Instr.index, run_underlying hu, asIntOf, part, go_sem]
theorem half_of (q : Nat × Nat) (n : Nat) : (if n = 0 then (q.1 : Int) else (q.2 : Int)) = ((if n = 0 then q.1 else q.2 : Nat) : Int) := by split <;> rfl
theorem fb_half (q : Nat × Nat) (n j : Nat) (hn : n < 2) (hj : j < 64) : fb q (64 * n + j) = (if n = 0 then q.1 else q.2).testBit (63 - j) := by
  unfold fb
  rcases (show n = 0 ∨ n = 1 by omega) with rfl | rfl
  · rw [if_pos (by omega), if_pos rfl, show 63 - (64 * 0 + j) = 63 - j by omega]
  · rw [if_neg (by omega), if_neg (by omega), show 127 - (64 * 1 + j) = 63 - j by omega]
theorem pw_at (j : Nat) (hj : j < 64) : 9223372036854775808 / 2 ^ j = 2 ^ (63 - j) := by
  rw [show (9223372036854775808 : Nat) = 2 ^ 63 from rfl]
  exact Nat.pow_div (by omega) (by omega)
theorem pw_and (f j : Nat) (hf : f < 18446744073709551616) (hj : j < 64) : bits .and .u64 (f : Int) ((9223372036854775808 / 2 ^ j : Nat) : Int) = ((f / 2 ^ (63 - j) % 2 * 2 ^ (63 - j) : Nat) : Int) := by
  have h : 2 ^ (63 - j) < 2 ^ 64 := Nat.pow_lt_pow_right (by omega) (by omega)
  rw [pw_at j hj, u64_and_nat _ _ hf h, nat_bit]
theorem pw_yes (f j : Nat) (hf : f < 18446744073709551616) (hj : j < 64) (h : f.testBit (63 - j) = true) : (bits .and .u64 (f : Int) ((9223372036854775808 / 2 ^ j : Nat) : Int) != 0) = true := by
  have h2 := (tb_eq _ _).1 h
  have h3 : 0 < 2 ^ (63 - j) := Nat.pow_pos (by omega)
  rw [pw_and f j hf hj, h2, bne_iff_ne]
  omega
theorem pw_no (f j : Nat) (hf : f < 18446744073709551616) (hj : j < 64) (h : f.testBit (63 - j) = false) : (bits .and .u64 (f : Int) ((9223372036854775808 / 2 ^ j : Nat) : Int) != 0) = false := by
  have h2 : ¬ f / 2 ^ (63 - j) % 2 = 1 := fun e => by rw [(tb_eq _ _).2 e] at h; cases h
  rw [pw_and f j hf hj, show f / 2 ^ (63 - j) % 2 = 0 by omega]
  simp

/-- Five new variables. -/
theorem five (w : World) (a b c d e : Obj) : ((((((w.alloc a).alloc b).alloc c).alloc d).alloc e).heap[w.heap.size]? = some a) ∧ ((((((w.alloc a).alloc b).alloc c).alloc d).alloc e).heap[w.heap.size + 1 + 1]? = some c) ∧ ((((((w.alloc a).alloc b).alloc c).alloc d).alloc e).heap[w.heap.size + 1 + 1 + 1]? = some d) ∧ ((((((w.alloc a).alloc b).alloc c).alloc d).alloc e).heap[w.heap.size + 1 + 1 + 1 + 1]? = some e) ∧ Below w.heap.size w (((((w.alloc a).alloc b).alloc c).alloc d).alloc e) := by
  refine ⟨var_alloc _ (var_alloc _ (var_alloc _ (var_alloc _ (heap_alloc_new w a)))), ?_, ?_, ?_, by repeat (first | exact Below.refl _ _ | apply Below.drew | refine Below.alloc ?_ (by simp; try omega) _)⟩
  · have h := heap_alloc_new ((w.alloc a).alloc b) c
    simp only [World.size_alloc] at h
    exact var_alloc _ (var_alloc _ h)
  · have h := heap_alloc_new (((w.alloc a).alloc b).alloc c) d
    simp only [World.size_alloc] at h
    exact var_alloc _ h
  · have h := heap_alloc_new ((((w.alloc a).alloc b).alloc c).alloc d) e
    simp only [World.size_alloc] at h
    exact h

set_option maxHeartbeats 1000000 in
set_option maxRecDepth 100000 in
theorem gtimes (p q : Nat × Nat) (w : World) (hp : G64 p) (hq : G64 q) :
    Calls Try.prog 104 #[.agg (ec p), .agg (ec q), .agg (ec (16212958658533785600, 0))] w fun e w' => e = .returned (.agg (ec (gmul q p))) ∧ Below w.heap.size w w' := by
  have HP := hid hp
  have HQ := hid hq
  clear hp hq
  obtain ⟨V0, V2, V3, V4, B⟩ := five w (.cells (ec p) 87) (.cells (ec q) 87) (.cells (ec (16212958658533785600, 0)) 87) (.cells (ec g0) 87) (.cells (ec g0) 87)
  have H0 := hid (show El _ _ _ from V0)
  have H2 := hid (show El _ _ _ from V2)
  have H3 := hid (show El _ _ _ from V3)
  have H4 := hid (show El _ _ _ from V4)
  have HB := hid B
  clear V0 V2 V3 V4 B
  show Calls _ _ #[.agg #[.int .u64 (p.1 : Int), .int .u64 (p.2 : Int)], .agg #[.int .u64 (q.1 : Int), .int .u64 (q.2 : Int)], .agg #[.int .u64 16212958658533785600, .int .u64 0]] _ _
  go_enter Try.func104, Try.ntmps104
  go_wp2_with fail
  go_loopw [9, 10, 16] (fun f9 p10 i16 ws => ∃ n : Nat, ∃ u v : Value, n ≤ 2 ∧ f9 = u ∧ p10 = v ∧ i16 = .int .i64 (n : Nat) ∧ Hid (El ws w.heap.size (gxN p (64 * n))) ∧ Hid (El ws (w.heap.size + 1 + 1) (16212958658533785600, 0)) ∧ Hid (El ws (w.heap.size + 1 + 1 + 1) g0) ∧ Hid (El ws (w.heap.size + 1 + 1 + 1 + 1) (gs (fb q) p (64 * n))) ∧ Hid (Below w.heap.size w ws)) (fun _ _ i16 _ => 2 - (intOf i16).toNat)
  case atStart => exact ⟨0, _, _, by omega, rfl, rfl, rfl, H0, H2, H3, H4, HB⟩
  case round =>
    clear H0 H2 H3 H4 HB
    obtain ⟨n, u, v, hn, rfl, rfl, rfl, H0, H2, H3, H4, HB⟩ := hrel
    by_cases hlt : n < 2
    · have hix := idx_two (q.1 : Int) (q.2 : Int) n hlt
      rw [half_of] at hix
      have HF := hid (fun j (hj : j < 64) => fb_half q n j hlt hj)
      have F64 := hid (show (if n = 0 then q.1 else q.2) < 18446744073709551616 by have h1 := HQ.out.1; have h2 := HQ.out.2; split <;> assumption)
      have n0 : (0 : Int) ≤ (n : Int) := by omega
      have n2 : (n : Int) < 2 := by omega
      generalize (if n = 0 then q.1 else q.2 : Nat) = f at *
      go_wp2_with (go_at_call 108; refine (pzero _).mono ?_; rintro e w' ⟨rfl, rfl⟩)
      go_loopw [10] (fun p10 wt => ∃ j : Nat, j ≤ 64 ∧ p10 = .int .u64 ((9223372036854775808 / 2 ^ j : Nat) : Int) ∧ Hid (El wt w.heap.size (gxN p (64 * n + j))) ∧ Hid (El wt (w.heap.size + 1 + 1) (16212958658533785600, 0)) ∧ Hid (El wt (w.heap.size + 1 + 1 + 1) g0) ∧ Hid (El wt (w.heap.size + 1 + 1 + 1 + 1) (gs (fb q) p (64 * n + j))) ∧ Hid (Below w.heap.size w wt)) (fun p10 _ => (intOf p10).toNat)
      case atStart => exact ⟨0, by omega, rfl, H0, H2, H3, H4, HB⟩
      case round =>
        clear H0 H2 H3 H4 HB
        obtain ⟨j, hj, rfl, I0, I2, I3, I4, IB⟩ := hrel
        by_cases hlj : j < 64
        · have XG := hid (gxN_64 HP.out (64 * n + j))
          have SG := hid (gs_64 (fb q) HP.out (64 * n + j))
          have PP := pw_at j hlj
          have PL : 0 < 2 ^ (63 - j) := Nat.pow_pos (by omega)
          rw [← PP] at PL
          have PN := hid (show Value.int .u64 (((9223372036854775808 / 2 ^ j : Nat) : Int) / 2) = .int .u64 ((9223372036854775808 / 2 ^ (j + 1) : Nat) : Int) by rw [show ((9223372036854775808 / 2 ^ j : Nat) : Int) / 2 = ((9223372036854775808 / 2 ^ j / 2 : Nat) : Int) by omega, Nat.div_div_eq_div_mul, ← Nat.pow_succ])
          have p1 : (((9223372036854775808 / 2 ^ j : Nat) : Int) != 0) = true := by rw [bne_iff_ne]; omega
          have p2 : 9223372036854775808 / 2 ^ j < 18446744073709551616 := Nat.lt_of_le_of_lt (Nat.div_le_self _ _) (by decide)
          have MS := hid (show (intOf (Value.int .u64 (((9223372036854775808 / 2 ^ j : Nat) : Int) / 2))).toNat < (intOf (Value.int .u64 ((9223372036854775808 / 2 ^ j : Nat) : Int))).toNat by simp only [intOf]; omega)
          by_cases hb : f.testBit (63 - j) = true
          · have c1 := pw_yes f j F64.out hlj hb
            have SN := hid (gs_yes (fb q) p (64 * n + j) ((HF.out j hlj).trans hb))
            clear PP HF
            generalize 9223372036854775808 / 2 ^ j = pw at *
            go_wp2_with (first | refine wpList_load_row rfl 87 _ rfl (w.heap.size + 1 + 1 + 1 + 1) rfl 87 (ec (gs (fb q) p (64 * n + j))) _ _ I4.out Try.underlying87 rfl (ec_size _) ?_ | refine wpList_load_row rfl 87 _ rfl (w.heap.size) rfl 87 (ec (gxN p (64 * n + j))) _ _ I0.out Try.underlying87 rfl (ec_size _) ?_)
            refine (gplusE (gs (fb q) p (64 * n + j)) (gxN p (64 * n + j)) _ SG.out XG.out).mono ?_
            rintro e w1 ⟨rfl, hB⟩
            have Y4 := hid (I4.out.below hB)
            have Y0 := hid ((I0.out.below hB).far (ec (ga (gs (fb q) p (64 * n + j)) (gxN p (64 * n + j)))) (show w.heap.size ≠ w.heap.size + 1 + 1 + 1 + 1 by omega))
            have Y2 := hid ((I2.out.below hB).far (ec (ga (gs (fb q) p (64 * n + j)) (gxN p (64 * n + j)))) (show w.heap.size + 1 + 1 ≠ w.heap.size + 1 + 1 + 1 + 1 by omega))
            have Y3 := hid ((I3.out.below hB).far (ec (ga (gs (fb q) p (64 * n + j)) (gxN p (64 * n + j)))) (show w.heap.size + 1 + 1 + 1 ≠ w.heap.size + 1 + 1 + 1 + 1 by omega))
            have YB := hid (below_row (IB.out.trans (hB.mono IB.out.size)) (show w.heap.size ≤ w.heap.size + 1 + 1 + 1 + 1 by omega) (ec (ga (gs (fb q) p (64 * n + j)) (gxN p (64 * n + j)))))
            have YN := hid (Y4.out.row (q := ga (gs (fb q) p (64 * n + j)) (gxN p (64 * n + j))))
            clear hB
            go_wp2_with (first | refine wpList_store_row rfl 87 _ _ rfl (w.heap.size + 1 + 1 + 1 + 1) (ec (ga (gs (fb q) p (64 * n + j)) (gxN p (64 * n + j)))) rfl rfl 87 _ Y4.out (ec_size _) rfl (ec_one _) ?_ | refine wpList_load_row rfl 87 _ rfl (w.heap.size) rfl 87 (ec (gxN p (64 * n + j))) _ _ Y0.out Try.underlying87 rfl (ec_size _) ?_ | refine wpList_load_row rfl 87 _ rfl (w.heap.size + 1 + 1) rfl 87 (ec (16212958658533785600, 0)) _ _ Y2.out Try.underlying87 rfl (ec_size _) ?_)
            refine (griseE (gxN p (64 * n + j)) _ XG.out).mono ?_
            rintro e w2 ⟨rfl, hB⟩
            have T0 := hid (Y0.out.below hB)
            have T2 := hid ((Y2.out.below hB).far (ec (gx (gxN p (64 * n + j)))) (show w.heap.size + 1 + 1 ≠ w.heap.size by omega))
            have T3 := hid ((Y3.out.below hB).far (ec (gx (gxN p (64 * n + j)))) (show w.heap.size + 1 + 1 + 1 ≠ w.heap.size by omega))
            have T4 := hid ((YN.out.below hB).far (ec (gx (gxN p (64 * n + j)))) (show w.heap.size + 1 + 1 + 1 + 1 ≠ w.heap.size by omega))
            have TB := hid (below_row (YB.out.trans (hB.mono YB.out.size)) (Nat.le_refl _) (ec (gx (gxN p (64 * n + j)))))
            have TN := hid (T0.out.row (q := gx (gxN p (64 * n + j))))
            clear hB
            go_wp2_with (first | refine wpList_store_row rfl 87 _ _ rfl (w.heap.size) (ec (gx (gxN p (64 * n + j)))) rfl rfl 87 _ T0.out (ec_size _) rfl (ec_one _) ?_)
            refine ⟨⟨j + 1, by omega, ?_, TN, T2, T3, ?_, TB⟩, ?_⟩
            · exact PN.out
            · rw [← Nat.add_assoc, SN.out]; exact T4
            · exact MS.out
          · have hb : f.testBit (63 - j) = false := by simpa using hb
            have c1 := pw_no f j F64.out hlj hb
            have SN := hid (gs_no (fb q) p (64 * n + j) ((HF.out j hlj).trans hb))
            clear PP HF
            generalize 9223372036854775808 / 2 ^ j = pw at *
            go_wp2_with (first | refine wpList_load_row rfl 87 _ rfl (w.heap.size) rfl 87 (ec (gxN p (64 * n + j))) _ _ I0.out Try.underlying87 rfl (ec_size _) ?_ | refine wpList_load_row rfl 87 _ rfl (w.heap.size + 1 + 1) rfl 87 (ec (16212958658533785600, 0)) _ _ I2.out Try.underlying87 rfl (ec_size _) ?_)
            refine (griseE (gxN p (64 * n + j)) _ XG.out).mono ?_
            rintro e w2 ⟨rfl, hB⟩
            have T0 := hid (I0.out.below hB)
            have T2 := hid ((I2.out.below hB).far (ec (gx (gxN p (64 * n + j)))) (show w.heap.size + 1 + 1 ≠ w.heap.size by omega))
            have T3 := hid ((I3.out.below hB).far (ec (gx (gxN p (64 * n + j)))) (show w.heap.size + 1 + 1 + 1 ≠ w.heap.size by omega))
            have T4 := hid ((I4.out.below hB).far (ec (gx (gxN p (64 * n + j)))) (show w.heap.size + 1 + 1 + 1 + 1 ≠ w.heap.size by omega))
            have TB := hid (below_row (IB.out.trans (hB.mono IB.out.size)) (Nat.le_refl _) (ec (gx (gxN p (64 * n + j)))))
            have TN := hid (T0.out.row (q := gx (gxN p (64 * n + j))))
            clear hB
            go_wp2_with (first | refine wpList_store_row rfl 87 _ _ rfl (w.heap.size) (ec (gx (gxN p (64 * n + j)))) rfl rfl 87 _ T0.out (ec_size _) rfl (ec_one _) ?_)
            refine ⟨⟨j + 1, by omega, ?_, TN, T2, T3, ?_, TB⟩, ?_⟩
            · exact PN.out
            · rw [← Nat.add_assoc, SN.out]; exact T4
            · exact MS.out
        · have hj64 : j = 64 := by omega
          subst hj64
          rw [show 9223372036854775808 / 2 ^ 64 = 0 from rfl]
          go_wp2_with fail
          refine ⟨⟨n + 1, _, _, by omega, rfl, rfl, num_succ n, I0, I2, I3, I4, IB⟩, ?_⟩
          simp [intOf]
          omega
    · have hn2 : n = 2 := by omega
      subst hn2
      go_wp2_with (first | refine wpList_load_row rfl 87 _ rfl (w.heap.size + 1 + 1 + 1 + 1) rfl 87 (ec (gmul q p)) _ _ H4.out Try.underlying87 rfl (ec_size _) ?_ | refine wpList_store_row rfl 87 _ _ rfl (w.heap.size + 1 + 1 + 1) (ec (gmul q p)) rfl rfl 87 _ H3.out (ec_size _) rfl (ec_one _) ?_)
      exact bodyPost_ret (v := .agg (ec (gmul q p))) (results_cell_row rfl _ _ (w.heap.size + 1 + 1 + 1) 87 _ _ _ rfl (H3.out.row (q := gmul q p)) Try.underlying87 rfl (ec_size _)) rfl ⟨rfl, below_row HB.out (by omega) _⟩
end Go.Proofs.Ytcmafbgfdddnnaa.W
