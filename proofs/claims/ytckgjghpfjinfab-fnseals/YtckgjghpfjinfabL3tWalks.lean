/-
  Products of blocks: the model's l3Half, l3Bytes, l3Times.
-/
import Derived.Test.YtckgjghpfjinfabCut
import Derived.Test.YtckgjghpfjinfabGrpF
namespace Go.Proofs.Ytckgjghpfjinfab.W
open Go.ChangeShapes Go.WideShapes Go.ChangeAt Go.RowKit
open Go.Proofs.Ytckgjghpfjinfab.M

set_option maxRecDepth 100000 in
theorem l3half (v : Value) (l : List Nat) (w : World) (h : Rd w v l) (y : Byt l) (hl : 8 ≤ l.length) :
    Calls Try.prog 164 #[v] w fun e w' => e = .returned (.int .u64 (hfN l 0 8 : Nat)) ∧ w' = w := by
  obtain ⟨b, o, cap, rfl, -, -⟩ := h.spot (by omega)
  have HR := hid h
  clear h
  go_enter Try.func164, Try.ntmps164
  go_wp2
  go_loop [3, 4] (fun n3 i4 => ∃ k : Nat, k ≤ 8 ∧ i4 = .int .i64 k ∧ n3 = .int .u64 (hfN l 0 k : Nat)) (fun _ i4 => 8 - (intOf i4).toNat)
  case atStart => exact ⟨0, by omega, rfl, rfl⟩
  case round =>
    obtain ⟨k, hk, rfl, rfl⟩ := hrel
    by_cases hlt : k < 8
    · have c := HR.out.cells k (by omega)
      have s := hf_small l y 0 k hlt
      have b0 := gt_byt l y k
      have N := hid (show hfN l 0 (k + 1) = hfN l 0 k * 256 + gt l k by rw [hfN, Nat.zero_add])
      have kl : (k : Int) < (l.length : Int) := by omega
      generalize hfN l 0 k = a at *
      generalize gt l k = x at *
      go_wp2
      go_round
      case rel => exact ⟨k + 1, by omega, by go_num, by rw [N.out]; go_num⟩
      case measure => simp [intOf]; omega
    · have hk8 : k = 8 := by omega
      subst hk8
      go_wp2
      go_ret
      exact ⟨rfl, rfl⟩

set_option maxHeartbeats 1000000 in
set_option maxRecDepth 100000 in
theorem l3bytes (p : Nat × Nat) (w : World) (hp : G64 p) :
    Calls Try.prog 165 #[.int .u64 (p.1 : Nat), .int .u64 (p.2 : Nat)] w fun e w' => e = .returned (.slice (some ⟨w.heap.size, 0, none⟩) 16 16) ∧ Own w' w.heap.size (.slice (some ⟨w.heap.size, 0, none⟩) 16 16) (eb p) ∧ Below w.heap.size w w' := by
  obtain ⟨i0, hi, hz0, hz1, hz2⟩ := info_parts info8
  have HP := hid hp
  clear hp
  go_enter Try.func165, Try.ntmps165
  go_wp2_with (at_make; refine wpList_make_full _ rfl _ _ 22 rfl w.heap.size 5 i0 (.int .u8 0) 1 Try.underlying22 hi hz0 hz1 .i64 .i64 _ _ 16 rfl rfl rfl rfl (by rw [hz2]; omega) (by unfold maxLen; omega) (Nat.le_refl _) ?_; intro w0 hown0 hgrow0)
  have hown1 := own_made w w0 16 hown0
  have hb0 := below_of_grown hgrow0 (Nat.le_refl _) (fun k hk => by simp at hk)
  clear hown0 hgrow0 hi hz0 hz1 hz2
  go_loopw [0, 1, 6] (fun n0 n1 i6 wr => ∃ k : Nat, k ≤ 8 ∧ i6 = .int .i64 (7 - (k : Int)) ∧ n0 = .int .u64 (p.1 / 256 ^ k : Nat) ∧ n1 = .int .u64 (p.2 / 256 ^ k : Nat) ∧ Hid (Own wr w.heap.size (.slice (some ⟨w.heap.size, 0, none⟩) 16 16) (rk (gt (eb p)) k)) ∧ Hid (Below w.heap.size w wr)) (fun _ _ i6 _ => (intOf i6 + 1).toNat)
  case atStart => exact ⟨0, by omega, rfl, by rw [Nat.pow_zero, Nat.div_one], by rw [Nat.pow_zero, Nat.div_one], hid (by rw [rk_zero]; exact hown1), hid hb0⟩
  case round =>
    clear hown1 hb0
    obtain ⟨k, hk, rfl, rfl, rfl, HO, HB⟩ := hrel
    by_cases hlt : k < 8
    · obtain ⟨t, ht⟩ : ∃ t : Nat, t + k = 7 := ⟨7 - k, by omega⟩
      rw [show 7 - (k : Int) = (t : Int) by omega]
      have d0 : ∃ u, wr.cell? ⟨w.heap.size, t, none⟩ = some u := ⟨_, HO.out.cell (rk_len _ _) t (by rw [rk_len]; omega)⟩
      have d1 : ∃ u, wr.cell? ⟨w.heap.size, 8 + t, none⟩ = some u := ⟨_, HO.out.cell (rk_len _ _) (8 + t) (by rw [rk_len]; omega)⟩
      obtain ⟨u0, d0⟩ := d0
      obtain ⟨u1, d1⟩ := d1
      have f0 := HO.out.open (rk_len _ _) t
      have f1 := HO.out.open (rk_len _ _) (8 + t)
      have E0 := eb_lo p k t hlt ht
      have E1 := eb_hi p k t (8 + t) hlt ht rfl
      have RS := rk_set (gt (eb p)) k t (8 + t) hlt ht rfl
      have S1 := HO.out.stored (rk_len _ _) t (gt (eb p) t)
      have S2 := S1.1.stored (by rw [List.length_set, rk_len]) (8 + t) (gt (eb p) (8 + t))
      rw [RS] at S2
      have B2 := (HB.out.setCell (p := ⟨w.heap.size, t, none⟩) (Nat.le_refl _) (bv (gt (eb p) t))).setCell (p := ⟨w.heap.size, 8 + t, none⟩) (Nat.le_refl _) (bv (gt (eb p) (8 + t)))
      have S2 := S2.1
      unfold bv at S2 B2
      have P0 := hid (pow_step p.1 k)
      have P1 := hid (pow_step p.2 k)
      have q0 : p.1 / 256 ^ k < 18446744073709551616 := Nat.lt_of_le_of_lt (Nat.div_le_self _ _) HP.out.1
      have q1 : p.2 / 256 ^ k < 18446744073709551616 := Nat.lt_of_le_of_lt (Nat.div_le_self _ _) HP.out.2
      rw [E0, E1] at S2 B2
      clear S1 RS E0 E1
      generalize p.1 / 256 ^ k = a at *
      generalize p.2 / 256 ^ k = b at *
      have t0 : (0 : Int) ≤ (t : Int) := by omega
      have t1 : (t : Int) < 16 := by omega
      have k0 : (0 : Int) ≤ 8 + (t : Int) := by omega
      have k1 : 8 + (t : Int) < 16 := by omega
      rw [show ((a % 256 : Nat) : Int) = (a : Int) % 256 by omega, show ((b % 256 : Nat) : Int) = (b : Int) % 256 by omega] at S2 B2
      replace S2 := hid S2
      replace B2 := hid B2
      go_wp2
      go_roundw
      case rel => exact ⟨k + 1, by omega, i64_eq (by omega), by rw [← P0.out]; rfl, by rw [← P1.out]; rfl, S2, B2⟩
      case measure => simp [intOf]
    · have hk8 : k = 8 := by omega
      subst hk8
      rw [rk_end] at HO
      go_wp2
      go_ret
      exact ⟨rfl, HO.out, HB.out⟩

theorem hfN_drop (l : List Nat) (o : Nat) (k : Nat) : ∀ n, hfN (l.drop o) k n = hfN l (o + k) n
  | 0 => rfl
  | n + 1 => by
    rw [hfN, hfN, hfN_drop l o k n]
    congr 1
    unfold gt
    rw [List.getD_eq_getElem?_getD, List.getD_eq_getElem?_getD, List.getElem?_drop, Nat.add_assoc]
theorem wrap64 (a : Nat) (h : a < 18446744073709551616) : IntKind.u64.wrap (a : Int) = (a : Int) := by rw [IntKind.wrap_u64]; omega
theorem gx1_odd (a b : Nat) (h : G64 (a, b)) (hb : b % 2 = 1) : bits .xor .u64 (IntKind.u64.wrap ((a : Int) / 2)) 16212958658533785600 = ((gx (a, b)).1 : Nat) := by
  have h1 : a < 18446744073709551616 := h.1
  rw [show (a : Int) / 2 = ((a / 2 : Nat) : Int) by omega, wrap64 _ (by omega), show (16212958658533785600 : Int) = ((16212958658533785600 : Nat) : Int) from rfl, u64_xor_nat _ _ (by omega) (by decide)]
  simp [gx, hb]
theorem gx1_even (a b : Nat) (h : G64 (a, b)) (hb : ¬ b % 2 = 1) : IntKind.u64.wrap ((a : Int) / 2) = ((gx (a, b)).1 : Nat) := by
  have h1 : a < 18446744073709551616 := h.1
  rw [show (a : Int) / 2 = ((a / 2 : Nat) : Int) by omega, wrap64 _ (by omega)]
  simp [gx, hb]
theorem xor_top (b : Nat) (h : b < 9223372036854775808) : b ^^^ 9223372036854775808 = b + 9223372036854775808 := by
  have h1 := nat_join 63 9223372036854775808 b (by decide) h
  rw [Nat.add_comm, ← h1]
  apply Nat.eq_of_testBit_eq
  intro k
  rw [Nat.testBit_or, Nat.testBit_xor]
  by_cases hk : k = 63
  · subst hk
    rw [Nat.testBit_lt_two_pow (x := b) (i := 63) h]
    rfl
  · have e : (9223372036854775808 : Nat).testBit k = false := by
      have := Nat.testBit_two_pow (n := 63) (m := k)
      rw [show (9223372036854775808 : Nat) = 2 ^ 63 from rfl, this]
      simp; omega
    rw [e]
    simp
theorem gx2_any (a b : Nat) (h : G64 (a, b)) : IntKind.u64.wrap (IntKind.u64.wrap ((b : Int) / 2) + (a : Int) % 2 * 9223372036854775808) = ((gx (a, b)).2 : Nat) := by
  have h1 : b < 18446744073709551616 := h.2
  rw [show (b : Int) / 2 = ((b / 2 : Nat) : Int) by omega, wrap64 _ (by omega)]
  by_cases ha : a % 2 = 1
  · rw [show (a : Int) % 2 = 1 by omega, IntKind.wrap_u64]
    simp only [gx, ha, if_true]
    rw [xor_top _ (by omega)]
    omega
  · rw [show (a : Int) % 2 = 0 by omega, IntKind.wrap_u64]
    simp only [gx, ha, if_false]
    rw [Nat.xor_zero]
    omega
theorem bit_yes' (x m : Nat) (h : x / 2 ^ m % 2 = 1) : (((x : Int) / 2 ^ m).tmod 2 == 1) = true := by
  rw [beq_iff_eq, show ((x : Int) / 2 ^ m) = ((x / 2 ^ m : Nat) : Int) by simp, Int.tmod_eq_emod_of_nonneg (Int.natCast_nonneg _)]
  omega
theorem bit_no' (x m : Nat) (h : ¬ x / 2 ^ m % 2 = 1) : (((x : Int) / 2 ^ m).tmod 2 == 1) = false := by
  rw [beq_eq_false_iff_ne, show ((x : Int) / 2 ^ m) = ((x / 2 ^ m : Nat) : Int) by simp, Int.tmod_eq_emod_of_nonneg (Int.natCast_nonneg _)]
  omega
theorem par_yes (b : Nat) (h : b % 2 = 1) : ((b : Int) % 2 == 1) = true := by rw [beq_iff_eq]; omega
theorem par_no (b : Nat) (h : ¬ b % 2 = 1) : ((b : Int) % 2 == 1) = false := by rw [beq_eq_false_iff_ne]; omega
theorem u64_eq {a b : Int} (h : a = b) : Value.int .u64 a = .int .u64 b := by rw [h]
set_option maxHeartbeats 1000000 in
set_option maxRecDepth 100000 in
theorem l3times (va vb : Value) (la lb : List Nat) (w : World) (ha : Rd w va la) (hb : Rd w vb lb) (ya : Byt la) (yb : Byt lb) (na : la.length = 16) (nb : lb.length = 16) :
    Calls Try.prog 158 #[va, vb] w fun e w' => e = .returned (.slice (some ⟨w.heap.size, 0, none⟩) 16 16) ∧ Own w' w.heap.size (.slice (some ⟨w.heap.size, 0, none⟩) 16 16) (gtm la lb) ∧ Below w.heap.size w w' := by
  obtain ⟨ba, oa, capa, rfl, ea, -⟩ := ha.spot (by omega)
  obtain ⟨bb, ob, capb, rfl, eb', -⟩ := hb.spot (by omega)
  rw [na] at ha ea
  rw [nb] at hb eb'
  rw [na, nb]
  have HA := hid ha
  have HB := hid hb
  have NA := hid na
  have NB := hid nb
  have HD := hid (rd_piece hb 8 8 (by omega))
  rw [sub_drop lb 8 8 (by omega)] at HD
  have HF := run_from bb ob 16 capb 8 (by omega) (by omega)
  clear ha hb na nb
  go_enter Try.func158, Try.ntmps158
  go_wp2_with fail
  refine (l3half _ lb _ HB.out yb (by rw [NB.out]; omega)).mono ?_
  rintro e w' ⟨rfl, rfl⟩
  go_wp2_with fail
  refine (l3half _ (lb.drop 8) _ HD.out (fun x hx => yb x (List.mem_of_mem_drop hx)) (by rw [List.length_drop, NB.out]; omega)).mono ?_
  rintro e w' ⟨rfl, rfl⟩
  rw [hfN_drop]
  clear HD HF
  go_wp2_with fail
  go_loop [5, 6, 7, 8, 9, 10] (fun x5 y6 h7 l8 i9 o10 => ∃ n : Nat, ∃ u : Value, n ≤ 128 ∧ o10 = u ∧ i9 = .int .i64 n ∧ x5 = .int .u64 ((gs (fb (elt la)) (elt lb) n).1 : Nat) ∧ y6 = .int .u64 ((gs (fb (elt la)) (elt lb) n).2 : Nat) ∧ h7 = .int .u64 ((gxN (elt lb) n).1 : Nat) ∧ l8 = .int .u64 ((gxN (elt lb) n).2 : Nat)) (fun _ _ _ _ i9 _ => 128 - (intOf i9).toNat)
  case atStart => exact ⟨0, _, by omega, rfl, rfl, rfl, rfl, rfl, rfl⟩
  case round =>
    obtain ⟨n, u, hn, rfl, rfl, rfl, rfl, rfl, rfl⟩ := hrel
    by_cases hlt : n < 128
    · have c := HA.out.cells (n / 8) (by rw [NA.out]; omega)
      have SG := gs_64 (fb (elt la)) (elt_64 lb yb) n
      have XG := gxN_64 (elt_64 lb yb) n
      have FB := fb_elt la ya n hlt
      have GX : gxN (elt lb) (n + 1) = gx (gxN (elt lb) n) := rfl
      have x0 := gt_byt la ya (n / 8)
      have n0 : (0 : Int) ≤ (n : Int) := by omega
      have n1 : (n : Int) < 128 := by omega
      generalize gt la (n / 8) = x at *
      by_cases hb : x.testBit (7 - n % 8) = true
      · have SN := gs_yes (fb (elt la)) (elt lb) n (FB.trans hb)
        have cb := bit_yes' x _ ((tb_eq _ _).1 hb)
        clear FB hb
        generalize gs (fb (elt la)) (elt lb) n = S at *
        generalize gxN (elt lb) n = X at *
        obtain ⟨s1, s2⟩ := S
        obtain ⟨a, b⟩ := X
        simp only at *
        by_cases hp : b % 2 = 1
        · have cp := par_yes b hp
          go_wp2
          go_round
          case rel =>
            exact ⟨n + 1, _, by omega, rfl, by go_num, u64_eq (by rw [SN]; exact u64_xor_nat _ _ SG.1 XG.1), u64_eq (by rw [SN]; exact u64_xor_nat _ _ SG.2 XG.2), u64_eq (by rw [GX]; exact gx1_odd a b XG hp), u64_eq (by rw [GX]; exact gx2_any a b XG)⟩
          case measure => simp [intOf]; omega
        · have cp := par_no b hp
          go_wp2
          go_round
          case rel =>
            exact ⟨n + 1, _, by omega, rfl, by go_num, u64_eq (by rw [SN]; exact u64_xor_nat _ _ SG.1 XG.1), u64_eq (by rw [SN]; exact u64_xor_nat _ _ SG.2 XG.2), u64_eq (by rw [GX]; exact gx1_even a b XG hp), u64_eq (by rw [GX]; exact gx2_any a b XG)⟩
          case measure => simp [intOf]; omega
      · have SN := gs_no (fb (elt la)) (elt lb) n (FB.trans (by simpa using hb))
        have cb := bit_no' x _ (fun e => hb ((tb_eq _ _).2 e))
        clear FB hb
        generalize gs (fb (elt la)) (elt lb) n = S at *
        generalize gxN (elt lb) n = X at *
        obtain ⟨s1, s2⟩ := S
        obtain ⟨a, b⟩ := X
        simp only at *
        by_cases hp : b % 2 = 1
        · have cp := par_yes b hp
          go_wp2
          go_round
          case rel =>
            exact ⟨n + 1, _, by omega, rfl, by go_num, u64_eq (by rw [SN]), u64_eq (by rw [SN]), u64_eq (by rw [GX]; exact gx1_odd a b XG hp), u64_eq (by rw [GX]; exact gx2_any a b XG)⟩
          case measure => simp [intOf]; omega
        · have cp := par_no b hp
          go_wp2
          go_round
          case rel =>
            exact ⟨n + 1, _, by omega, rfl, by go_num, u64_eq (by rw [SN]), u64_eq (by rw [SN]), u64_eq (by rw [GX]; exact gx1_even a b XG hp), u64_eq (by rw [GX]; exact gx2_any a b XG)⟩
          case measure => simp [intOf]; omega
    · have hn8 : n = 128 := by omega
      subst hn8
      go_wp2_with fail
      refine (l3bytes (gmul (elt la) (elt lb)) _ (gmul_64 _ (elt_64 lb yb))).mono ?_
      rintro e w1 ⟨rfl, O, B⟩
      go_wp2
      go_ret
      exact ⟨rfl, O, B⟩
end Go.Proofs.Ytckgjghpfjinfab.W
