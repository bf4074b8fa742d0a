/-
  A block by a key: what the model's l2Double and l2Encrypt answer.
-/
import Derived.Test.YtckgjghpfjinfabEncF
import Derived.Test.YtckgjghpfjinfabSlX
import Derived.Test.YtckgjghpfjinfabArrIx
import Derived.Test.YtckgjghpfjinfabSsubWalks
import Derived.StillTailTactics
import Derived.Deep.CutRange
namespace Go.Proofs.Ytckgjghpfjinfab.W
open Go.ChangeShapes Go.WideShapes Go.ChangeAt Go.RowKit
open Go.Proofs.Ytckgjghpfjinfab.M

theorem dbl (a : Nat) (ha : a < 256) (w : World) :
    Calls Try.prog 145 #[.int .u8 (a : Int)] w fun e w' => e = .returned (.int .u8 (xt a : Nat)) ∧ w' = w := by
  have e : bits .xor .u8 ((a : Int) * 2 % 256) ((a : Int) / 128 * 27) = ((xt a : Nat) : Int) := by
    have e1 : ((a : Int) * 2 % 256) = ((a * 2 % 256 : Nat) : Int) := by omega
    have e2 : ((a : Int) / 128 * 27) = ((a / 128 * 27 : Nat) : Int) := by omega
    rw [e1, e2, xor8 _ _ (by omega) (by omega), dbl_fin ⟨a, ha⟩]
  go_enter Try.func145, Try.ntmps145
  go_wp2
  go_ret
  exact ⟨rfl, rfl⟩

theorem idx_16 (g j : Nat) (hj : j < 16) (w : World) : (Instr.indexAt 78 (.pointer (some ⟨g, 0, none⟩)) (.int .i64 (j : Int))).run Try.prog w = .ok (.pointer (some ⟨g, j, none⟩)) w := by
  have hs : ∀ w : World, (sizeOf (Try.prog.elem 78)).run Try.prog w = .ok 1 w := fun _ => by kernel_rfl
  have hl : Try.prog.arrayLen 78 = 16 := by kernel_rfl
  rw [run_indexAt_array (P := Try.prog) w 78 _ .i64 (j : Int) (by kernel_rfl), hl, if_pos (by omega), hs]
  simp [Result.andThen, Addr.add_lit]
theorem idx_sl (g o n c j : Nat) (hj : j < n) (w : World) : (Instr.indexAt 22 (.slice (some ⟨g, o, none⟩) n c) (.int .i64 (j : Int))).run Try.prog w = .ok (.pointer (some ⟨g, o + j, none⟩)) w := by
  have hs : ∀ w : World, (sizeOf (Try.prog.elem 22)).run Try.prog w = .ok 1 w := fun _ => by kernel_rfl
  rw [run_indexAt_slice (P := Try.prog) w 22 _ n c .i64 (j : Int) (by kernel_rfl)]
  simp [hs, hj, Result.andThen, Addr.add_lit]
theorem wrap_nat (n : Nat) (h : n < 1000000) : IntKind.i64.wrap (n : Int) = (n : Int) := by rw [IntKind.wrap_i64]; omega

set_option maxHeartbeats 4000000 in
set_option maxRecDepth 100000 in
theorem l2enc (v : Value) (l : List Nat) (F : Nat → Nat) (gk : Nat) (w : World) (h : Rd w v l) (y : Byt l) (hl : l.length = 16) (hK : Ar w gk 5 (rowTo 176 F 176)) (hF : ∀ j, F j < 256) :
    Calls Try.prog 116 #[.slice (some ⟨gk, 0, none⟩) 176 176, v] w fun e w' => ∃ r, e = .returned r ∧ Own w' w.heap.size r (enc F l) ∧ Below w.heap.size w w' := by
  obtain ⟨i0, hi, hz0, hz1, hz2⟩ := info_parts info8
  obtain ⟨b, o, cap, rfl, hcap, hb0⟩ := h.spot (by omega)
  have HC := hid (fun i hi => h.cells i hi)
  have HL := hid hl
  have HK := hid (fun j (hj : j < 176) => show w.cell? ⟨gk, j, none⟩ = some (.int .u8 (F j : Nat)) by rw [hK.cell j (by rw [rowTo_len]; exact hj), rowTo_gt _ _ _ _ hj (Nat.le_refl _)])
  rw [hl] at hcap ⊢
  clear h hl hK
  go_enter Try.func116, Try.ntmps116
  go_wp2_with fail
  have X0 : Ar ((w.alloc (.cells #[.int .u8 0, .int .u8 0, .int .u8 0, .int .u8 0, .int .u8 0, .int .u8 0, .int .u8 0, .int .u8 0, .int .u8 0, .int .u8 0, .int .u8 0, .int .u8 0, .int .u8 0, .int .u8 0, .int .u8 0, .int .u8 0] 78)).alloc (.cells #[.int .u8 0, .int .u8 0, .int .u8 0, .int .u8 0, .int .u8 0, .int .u8 0, .int .u8 0, .int .u8 0, .int .u8 0, .int .u8 0, .int .u8 0, .int .u8 0, .int .u8 0, .int .u8 0, .int .u8 0, .int .u8 0] 78)) w.heap.size 78 (zs 16) := heap_alloc2_old w _ _
  have Y0 : Ar ((w.alloc (.cells #[.int .u8 0, .int .u8 0, .int .u8 0, .int .u8 0, .int .u8 0, .int .u8 0, .int .u8 0, .int .u8 0, .int .u8 0, .int .u8 0, .int .u8 0, .int .u8 0, .int .u8 0, .int .u8 0, .int .u8 0, .int .u8 0] 78)).alloc (.cells #[.int .u8 0, .int .u8 0, .int .u8 0, .int .u8 0, .int .u8 0, .int .u8 0, .int .u8 0, .int .u8 0, .int .u8 0, .int .u8 0, .int .u8 0, .int .u8 0, .int .u8 0, .int .u8 0, .int .u8 0, .int .u8 0] 78)) (w.heap.size + 1) 78 (zs 16) := heap_alloc2_new w _ _
  have B0 := below_alloc2 w (.cells #[.int .u8 0, .int .u8 0, .int .u8 0, .int .u8 0, .int .u8 0, .int .u8 0, .int .u8 0, .int .u8 0, .int .u8 0, .int .u8 0, .int .u8 0, .int .u8 0, .int .u8 0, .int .u8 0, .int .u8 0, .int .u8 0] 78) (.cells #[.int .u8 0, .int .u8 0, .int .u8 0, .int .u8 0, .int .u8 0, .int .u8 0, .int .u8 0, .int .u8 0, .int .u8 0, .int .u8 0, .int .u8 0, .int .u8 0, .int .u8 0, .int .u8 0, .int .u8 0, .int .u8 0] 78)
  generalize (w.alloc (.cells #[.int .u8 0, .int .u8 0, .int .u8 0, .int .u8 0, .int .u8 0, .int .u8 0, .int .u8 0, .int .u8 0, .int .u8 0, .int .u8 0, .int .u8 0, .int .u8 0, .int .u8 0, .int .u8 0, .int .u8 0, .int .u8 0] 78)).alloc (.cells #[.int .u8 0, .int .u8 0, .int .u8 0, .int .u8 0, .int .u8 0, .int .u8 0, .int .u8 0, .int .u8 0, .int .u8 0, .int .u8 0, .int .u8 0, .int .u8 0, .int .u8 0, .int .u8 0, .int .u8 0, .int .u8 0] 78) = W at *
  obtain ⟨gy, hgy⟩ : ∃ g, g = w.heap.size + 1 := ⟨_, rfl⟩
  rw [← hgy] at Y0 ⊢
  have Hgy := hid hgy
  have HF := hid hF
  have HI := hid (And.intro hi (And.intro hz0 (And.intro hz1 hz2)))
  clear hgy hF hi hz0 hz1 hz2
  go_loopw [7] (fun i ws => ∃ k : Nat, k ≤ 16 ∧ i = .int .i64 k ∧ Ar ws w.heap.size 78 (upd (stt F l 0) (zs 16) k) ∧ Ar ws gy 78 (zs 16) ∧ Below w.heap.size w ws) (fun i _ => 16 - (intOf i).toNat)
  case atStart => exact ⟨0, by omega, rfl, by rw [upd_zero]; exact X0, Y0, B0⟩
  case round =>
    obtain ⟨k, hk, rfl, X, Y, B⟩ := hrel
    clear X0 Y0 B0
    have hs : (stt F l 0).length = (zs 16).length := by rw [stt_len F l HL.out, zs_len]
    by_cases hlt : k < 16
    · have c1 := cell_kept B (HC.out k (by rw [HL.out]; exact hlt))
      have c2 := cell_kept B (HK.out k (by omega))
      have c3 : ∃ u, wr.cell? ⟨w.heap.size, k, none⟩ = some u := ⟨_, X.cell k (by rw [upd_len _ _ hs, zs_len]; exact hlt)⟩
      obtain ⟨u3, c3⟩ := c3
      have f3 := X.open k
      have e : gt (stt F l 0) k = gt l k ^^^ F k := by
        rw [stt, xl_gt _ _ _ (by rw [HL.out]; exact hlt), rkl_gt _ _ _ hlt, Nat.mul_zero, Nat.zero_add]
      have S := X.stored k (gt (stt F l 0) k)
      rw [upd_set _ _ hs k (by rw [zs_len]; exact hlt)] at S
      have SY := Y.far (g' := w.heap.size) (k := k) (.int .u8 (gt (stt F l 0) k : Nat)) (by have := Hgy.out; omega)
      have SB := B.setCell (p := ⟨w.heap.size, k, none⟩) (Nat.le_refl _) (.int .u8 (gt (stt F l 0) k : Nat))
      have y1 := gt_byt l y k
      have y2 := HF.out k
      have E : bits .xor .u8 (gt l k : Nat) (F k : Nat) = ((gt (stt F l 0) k : Nat) : Int) := by rw [xor8 _ _ y1 y2, e]
      have k0 : (0 : Int) ≤ (k : Int) := by omega
      have k1 : (k : Int) < 16 := by omega
      have I1 := idx_sl b o 16 cap k hlt
      have I2 := idx_sl gk 0 176 176 k (by omega)
      rw [Nat.zero_add] at I2
      have I3 := idx_16 w.heap.size k hlt
      replace S := hid S
      replace SY := hid SY
      replace SB := hid SB
      clear X Y B e hs
      generalize gt l k = z1 at *
      generalize F k = z2 at *
      generalize gt (stt F l 0) k = z3 at *
      go_wp2_with fail
      refine wp_region_still_tail 11 (by kernel_rfl) (by kernel_rfl) ?_
      change wpStill _ _ (World.drew _) (fun a' => wpList _ _ _ _ a' (World.drew _)) _ _
      simp only [List.take_succ_cons, List.take_zero, List.drop_succ_cons, List.drop_zero]
      repeat still_step
      refine wpStill_nil ?_
      go_wp2
      exact ⟨⟨k + 1, hlt, num_succ k, S.out.drew, SY.out.drew, SB.out.drew⟩, meas 16 k hlt⟩
    · have hk16 : k = 16 := by omega
      subst hk16
      rw [upd_end _ _ hs 16 (by rw [zs_len])] at X
      clear hk hlt hs
      rw [show ((16 : Nat) : Int) = 16 from rfl]
      have X1 := hid X
      have Y1 := hid Y
      have B1 := hid B
      obtain ⟨w1, rfl⟩ : ∃ w1, w1 = wr := ⟨_, rfl⟩
      clear X Y B
      go_wp2_with fail
      go_loopw [8, 9, 10, 11, 12] (fun s8 s9 s10 s11 s12 ws => ∃ n r : Nat, ∃ u9 u10 u11 u12 : Value, ∃ yl : List Nat, n ≤ 10 ∧ Hid (r = n + 1) ∧ s8 = .int .i64 (r : Nat) ∧ s9 = u9 ∧ s10 = u10 ∧ s11 = u11 ∧ s12 = u12 ∧ yl.length = 16 ∧ Ar ws w.heap.size 78 (stt F l n) ∧ Ar ws gy 78 yl ∧ Below w.heap.size w ws) (fun s8 _ _ _ _ _ => 12 - (intOf s8).toNat)
      case atStart => exact ⟨0, 1, _, _, _, _, zs 16, by omega, hid rfl, rfl, rfl, rfl, rfl, rfl, zs_len 16, X1.out, Y1.out, B1.out⟩
      case round =>
        obtain ⟨n, r, v9, v10, v11, v12, yl, hn, Hr, rfl, rfl, rfl, rfl, rfl, hyl, X, Y, B⟩ := hrel
        clear X1 Y1 B1
        by_cases hlt : n < 10
        · have n1 : (r : Int) ≤ 10 := by have := Hr.out; omega
          have n2 : (1 : Int) ≤ (r : Int) := by have := Hr.out; omega
          have sl := stt_len F l HL.out n
          have sb := stt_byt F HF.out l y n
          have X1 := hid X
          have Y1 := hid Y
          have B1 := hid B
          have Hyl := hid hyl
          have Hsl := hid sl
          clear X Y B hyl sl
          go_wp2_with fail
          go_loopw [9] (fun s9 ws => ∃ k : Nat, k ≤ 16 ∧ s9 = .int .i64 k ∧ Ar ws w.heap.size 78 (stt F l n) ∧ Ar ws gy 78 (upd (shl (sbl (stt F l n))) yl k) ∧ Below w.heap.size w ws) (fun s9 _ => 16 - (intOf s9).toNat)
          case atStart => exact ⟨0, by omega, rfl, X1.out, by rw [upd_zero]; exact Y1.out, B1.out⟩
          case round =>
            obtain ⟨k, hk, rfl, X, Y, B⟩ := hrel
            clear X1 Y1 B1
            have hs : (shl (sbl (stt F l n))).length = yl.length := by rw [shl_len, Hyl.out]
            by_cases hlk : k < 16
            · obtain ⟨q, hq⟩ : ∃ q, q = (k + 4 * (k % 4)) % 16 := ⟨_, rfl⟩
              have c1 := X.cell q (by rw [Hsl.out]; omega)
              have c3 : ∃ u, wr.cell? ⟨gy, k, none⟩ = some u := ⟨_, Y.cell k (by rw [upd_len _ _ hs, Hyl.out]; exact hlk)⟩
              obtain ⟨u3, c3⟩ := c3
              have f3 := Y.open k
              have e : gt (shl (sbl (stt F l n))) k = sbx (gt (stt F l n) q) := by rw [shs_gt _ Hsl.out k hlk, hq]
              have S := Y.stored k (gt (shl (sbl (stt F l n))) k)
              rw [upd_set _ _ hs k (by rw [Hyl.out]; exact hlk), e] at S
              have SX := X.far (g' := gy) (k := k) (.int .u8 (sbx (gt (stt F l n) q) : Nat)) (by have := Hgy.out; omega)
              have SB := B.setCell (p := ⟨gy, k, none⟩) (by have := Hgy.out; simp; omega) (.int .u8 (sbx (gt (stt F l n) q) : Nat))
              have y1 := gt_byt _ sb q
              have e1 : ((k : Int) + 4 * ((k : Int) % 4)) % 16 = (q : Int) := by omega
              have q1 : (q : Int) < 16 := by omega
              have q0 : (0 : Int) ≤ (q : Int) := by omega
              have k0 : (0 : Int) ≤ (k : Int) := by omega
              have k1 : (k : Int) < 16 := by omega
              replace S := hid S
              replace SX := hid SX
              replace SB := hid SB
              clear X Y B e hs hq sb
              generalize gt (stt F l n) q = z at *
              go_wp2_with fail
              refine (ssub z y1 _).mono ?_
              rintro e w' ⟨rfl, rfl⟩
              go_wp2_with fail
              exact ⟨⟨k + 1, hlk, num_succ k, SX.out, S.out, SB.out⟩, meas 16 k hlk⟩
            · have hk16 : k = 16 := by omega
              subst hk16
              rw [upd_end _ _ hs 16 (by rw [Hyl.out])] at Y
              clear hk hlk hs
              rw [show ((16 : Nat) : Int) = 16 from rfl]
              obtain ⟨YL, hYL⟩ : ∃ Y, Y = shl (sbl (stt F l n)) := ⟨_, rfl⟩
              have yb : Byt YL := by rw [hYL]; exact shl_byt _ (sbl_byt _ sb)
              have yn : YL.length = 16 := by rw [hYL, shl_len]
              rw [← hYL] at Y
              have HY := hid hYL
              have X1 := hid X
              have Y1 := hid Y
              have B1 := hid B
              have Hyn := hid yn
              obtain ⟨w2, rfl⟩ : ∃ w2, w2 = wr := ⟨_, rfl⟩
              clear X Y B hYL yn sb
              go_wp2_with fail
              go_loopw [10, 11, 12] (fun s10 s11 s12 ws => ∃ m c : Nat, ∃ u11 u12 : Value, m ≤ 4 ∧ Hid (c = 4 * m) ∧ s10 = .int .i64 (c : Nat) ∧ s11 = u11 ∧ s12 = u12 ∧ Ar ws w.heap.size 78 (upd (stt F l (n + 1)) (stt F l n) c) ∧ Ar ws gy 78 YL ∧ Below w.heap.size w ws) (fun s10 _ _ _ => 16 - (intOf s10).toNat)
              case atStart => exact ⟨0, 0, _, _, by omega, hid rfl, rfl, rfl, rfl, by rw [upd_zero]; exact X1.out, Y1.out, B1.out⟩
              case round =>
                obtain ⟨m, c, v11', v12', hm, Hc, rfl, rfl, rfl, X, Y, B⟩ := hrel
                clear X1 Y1 B1
                have hs : (stt F l (n + 1)).length = (stt F l n).length := by rw [stt_len F l HL.out, Hsl.out]
                by_cases hlm : m < 4
                · have hc := Hc.out
                  obtain ⟨c1, h1⟩ : ∃ q, q = c + 1 := ⟨_, rfl⟩
                  obtain ⟨c2, h2⟩ : ∃ q, q = c + 2 := ⟨_, rfl⟩
                  obtain ⟨c3, h3⟩ : ∃ q, q = c + 3 := ⟨_, rfl⟩
                  have d0 := Y.cell c (by rw [Hyn.out]; omega)
                  have d1 := Y.cell c1 (by rw [Hyn.out]; omega)
                  have d2 := Y.cell c2 (by rw [Hyn.out]; omega)
                  have d3 := Y.cell c3 (by rw [Hyn.out]; omega)
                  have y0 := gt_byt YL yb c
                  have y1 := gt_byt YL yb c1
                  have y2 := gt_byt YL yb c2
                  have y3 := gt_byt YL yb c3
                  obtain ⟨al, hal⟩ : ∃ a, a = ((gt YL c ^^^ gt YL c1) ^^^ gt YL c2) ^^^ gt YL c3 := ⟨_, rfl⟩
                  have E : bits .xor .u8 (bits .xor .u8 (bits .xor .u8 (gt YL c : Nat) (gt YL c1 : Nat)) (gt YL c2 : Nat)) (gt YL c3 : Nat) = (al : Int) := by
                    rw [xor8 _ _ y0 y1, xor8 _ _ (xor_lt _ _ y0 y1) y2, xor8 _ _ (xor_lt _ _ (xor_lt _ _ y0 y1) y2) y3, hal]
                  have hal2 : al < 256 := by rw [hal]; exact xor_lt _ _ (xor_lt _ _ (xor_lt _ _ y0 y1) y2) y3
                  have AL := hid (show al = ((gt YL (4 * m) ^^^ gt YL (4 * m + 1)) ^^^ gt YL (4 * m + 2)) ^^^ gt YL (4 * m + 3) by rw [hal, h1, h2, h3, hc])
                  have e1 : (c : Int) + 1 = (c1 : Int) := by omega
                  have e2 : (c : Int) + 2 = (c2 : Int) := by omega
                  have e3 : (c : Int) + 3 = (c3 : Int) := by omega
                  have p0 : (0 : Int) ≤ (c : Int) := by omega
                  have q0 : (c : Int) < 16 := by omega
                  have I0 := idx_16 gy c (by omega)
                  have I1 := idx_16 gy c1 (by omega)
                  have I2 := idx_16 gy c2 (by omega)
                  have I3 := idx_16 gy c3 (by omega)
                  have v1 := wrap_nat c1 (by omega)
                  have v2 := wrap_nat c2 (by omega)
                  have v3 := wrap_nat c3 (by omega)
                  have X1 := hid X
                  have Y1 := hid Y
                  have B1 := hid B
                  clear X Y B hal hc h1 h2 h3 hs
                  generalize gt YL c = z0 at *
                  generalize gt YL c1 = z1 at *
                  generalize gt YL c2 = z2 at *
                  generalize gt YL c3 = z3 at *
                  go_wp2_with fail
                  refine wp_region_still_lit (by kernel_rfl) (by kernel_rfl) ?_
                  change wpStill _ _ (World.drew _) _ _ _
                  repeat still_step
                  refine wpStill_nil ?_
                  have X2 := hid X1.out.drew
                  have Y2 := hid Y1.out.drew
                  have B2 := hid B1.out.drew
                  clear X1 Y1 B1 d0 d1 d2 d3 E e1 e2 e3 I0 I1 I2 I3 v1 v2 v3 y0 y1 y2 y3
                  change Exit.then _ _ _ _ (World.drew _)
                  generalize World.drew _ = x3 at *
                  go_wp2_with fail
                  go_loopw [12] (fun s12 ws => ∃ k : Nat, k ≤ 4 ∧ s12 = .int .i64 k ∧ Ar ws w.heap.size 78 (upd (stt F l (n + 1)) (stt F l n) (c + k)) ∧ Ar ws gy 78 YL ∧ Below w.heap.size w ws) (fun s12 _ => 4 - (intOf s12).toNat)
                  case atStart => exact ⟨0, by omega, rfl, X2.out, Y2.out, B2.out⟩
                  case round =>
                    obtain ⟨k, hk, rfl, X, Y, B⟩ := hrel
                    clear X2 Y2 B2
                    have hs : (stt F l (n + 1)).length = (stt F l n).length := by rw [stt_len F l HL.out, Hsl.out]
                    by_cases hlk : k < 4
                    · have hc := Hc.out
                      have hr := Hr.out
                      obtain ⟨t, ht⟩ : ∃ t, t = c + k := ⟨_, rfl⟩
                      obtain ⟨a1, ha1⟩ : ∃ a, a = 16 * r := ⟨_, rfl⟩
                      obtain ⟨a2, ha2⟩ : ∃ a, a = a1 + c := ⟨_, rfl⟩
                      obtain ⟨q, hq⟩ : ∃ q, q = a2 + k := ⟨_, rfl⟩
                      rw [← ht] at X
                      have t16 : t < 16 := by omega
                      have d1 := Y.cell t (by rw [Hyn.out]; exact t16)
                      have d2 := cell_kept B (HK.out q (by omega))
                      have d3 : ∃ u, wr.cell? ⟨w.heap.size, t, none⟩ = some u := ⟨_, X.cell t (by rw [upd_len _ _ hs, Hsl.out]; exact t16)⟩
                      obtain ⟨u3, d3⟩ := d3
                      have f3 := X.open t
                      have y1 := gt_byt YL yb t
                      have y2 := HF.out q
                      obtain ⟨v1, hv1⟩ : ∃ v, v = gt YL t ^^^ F q := ⟨_, rfl⟩
                      have E : bits .xor .u8 (gt YL t : Nat) (F q : Nat) = (v1 : Int) := by rw [xor8 _ _ y1 y2, hv1]
                      have hv2 : v1 < 256 := by rw [hv1]; exact xor_lt _ _ y1 y2
                      have e1 : (c : Int) + (k : Int) = (t : Int) := by omega
                      have e2 : 16 * (r : Int) = (a1 : Int) := by omega
                      have e3 : (a1 : Int) + (c : Int) = (a2 : Int) := by omega
                      have e4 : (a2 : Int) + (k : Int) = (q : Int) := by omega
                      have w1 := wrap_nat t (by omega)
                      have w2 := wrap_nat a1 (by omega)
                      have w3 := wrap_nat a2 (by omega)
                      have w4 := wrap_nat q (by omega)
                      have k0 : (0 : Int) ≤ (k : Int) := by omega
                      have k1 : (k : Int) < 4 := by omega
                      have I1 := idx_16 gy t t16
                      have I2 := idx_sl gk 0 176 176 q (by omega)
                      rw [Nat.zero_add] at I2
                      have I3 := idx_16 w.heap.size t t16
                      have hg := Hgy.out
                      have S1 := X.stored t v1
                      have SY1 := Y.far (g' := w.heap.size) (k := t) (.int .u8 (v1 : Nat)) (by omega)
                      have SB1 := B.setCell (p := ⟨w.heap.size, t, none⟩) (Nat.le_refl _) (.int .u8 (v1 : Nat))
                      have Ht := hid ht
                      have VQ := hid (show v1 = gt YL t ^^^ F (16 * (n + 1) + t) by rw [hv1, show 16 * (n + 1) + t = q by omega])
                      have US := hid (upd_set _ _ hs t (by rw [Hsl.out]; exact t16))
                      clear X Y B hs ht ha1 ha2 hq hc hr hg hv1
                      replace S1 := hid S1
                      replace SY1 := hid SY1
                      replace SB1 := hid SB1
                      generalize hy1 : gt YL t = z1 at *
                      have Hy1 := hid hy1
                      clear hy1
                      generalize F q = z2 at *
                      go_wp2_with fail
                      refine wp_region_still_tail 19 (by kernel_rfl) (by kernel_rfl) ?_
                      change wpStill _ _ (World.drew _) (fun a' => wpList _ _ _ _ a' (World.drew _)) _ _
                      simp only [List.take_succ_cons, List.take_zero, List.drop_succ_cons, List.drop_zero]
                      repeat still_step
                      refine wpStill_nil ?_
                      have S2 := hid S1.out.drew
                      have SY2 := hid SY1.out.drew
                      have SB2 := hid SB1.out.drew
                      by_cases h10 : n + 1 < 10
                      · have t10 : (r : Int) < 10 := by have := Hr.out; omega
                        go_wp2_with fail
                        generalize (wr.setCell ⟨w.heap.size, t, none⟩ (.int .u8 (v1 : Nat))).drew = x4 at *
                        obtain ⟨kk, hkk⟩ : ∃ j, j = (k + 1) % 4 := ⟨_, rfl⟩
                        obtain ⟨t2, ht2⟩ : ∃ j, j = c + kk := ⟨_, rfl⟩
                        have hc := Hc.out
                        have t216 : t2 < 16 := by omega
                        have g1 := S2.out.cell t (by rw [List.length_set, upd_len _ _ (by rw [stt_len F l HL.out, Hsl.out]), Hsl.out]; exact t16)
                        rw [gt_set_same _ _ _ (by rw [upd_len _ _ (by rw [stt_len F l HL.out, Hsl.out]), Hsl.out]; exact t16)] at g1
                        have g2 := SY2.out.cell t (by rw [Hyn.out]; exact t16)
                        rw [Hy1.out] at g2
                        have g3 := SY2.out.cell t2 (by rw [Hyn.out]; exact t216)
                        have y3 := gt_byt YL yb t2
                        have f4 := S2.out.open t
                        have FE := stt_mix F l YL n m k h10 HY.out yb hlm hlk
                        rw [← AL.out, ← hkk, ← hc, ← Ht.out, ← ht2, Hy1.out] at FE
                        rw [show F (16 * (n + 1) + t) = F (16 * (n + 1) + t) from rfl] at FE
                        have VQ2 := VQ.out
                        obtain ⟨m1, hm1⟩ : ∃ v, v = v1 ^^^ al := ⟨_, rfl⟩
                        obtain ⟨m2, hm2⟩ : ∃ v, v = z1 ^^^ gt YL t2 := ⟨_, rfl⟩
                        obtain ⟨v2, hv2'⟩ : ∃ v, v = gt (stt F l (n + 1)) t := ⟨_, rfl⟩
                        have E1 : bits .xor .u8 (v1 : Nat) (al : Nat) = (m1 : Int) := by rw [xor8 _ _ hv2 hal2, hm1]
                        have E2 : bits .xor .u8 (z1 : Nat) (gt YL t2 : Nat) = (m2 : Int) := by rw [xor8 _ _ y1 y3, hm2]
                        have m1l : m1 < 256 := by rw [hm1]; exact xor_lt _ _ hv2 hal2
                        have m2l : m2 < 256 := by rw [hm2]; exact xor_lt _ _ y1 y3
                        have E3 : bits .xor .u8 (m1 : Nat) (xt m2 : Nat) = (v2 : Int) := by rw [xor8 _ _ m1l (xt_lt m2), hv2', FE, hm1, hm2, VQ2]
                        have S3 := S2.out.stored t v2
                        rw [List.set_set, hv2', US.out] at S3
                        have VE := hid hv2'
                        have SY3 := SY2.out.far (g' := w.heap.size) (k := t) (.int .u8 (v2 : Nat)) (by have := Hgy.out; omega)
                        have SB3 := SB2.out.setCell (p := ⟨w.heap.size, t, none⟩) (Nat.le_refl _) (.int .u8 (v2 : Nat))
                        have J1 := idx_16 gy t2 t216
                        have b1 : ((k : Int) + 1) % 4 = (kk : Int) := by omega
                        have b2 : ((k : Int) + 1).tmod 4 = (kk : Int) := by rw [Int.tmod_eq_emod_of_nonneg (by omega)]; omega
                        have b3 : (c : Int) + (kk : Int) = (t2 : Int) := by omega
                        have b4 := wrap_nat kk (by omega)
                        have b5 := wrap_nat t2 (by omega)
                        have b6 : IntKind.i64.wrap ((k : Int) + 1) = (k : Int) + 1 := by rw [IntKind.wrap_i64]; omega
                        replace S3 := hid S3
                        replace SY3 := hid SY3
                        replace SB3 := hid SB3
                        clear FE VQ2 hm1 hm2 hv2' hc hkk ht2 h10 E d1 d2 d3 S2 SY2 SB2
                        generalize gt YL t2 = z4 at *
                        refine wp_region_still_tail 26 (by kernel_rfl) (by kernel_rfl) ?_
                        change wpStill _ _ (World.drew _) (fun a' => wpList _ _ _ _ a' (World.drew _)) _ _
                        simp only [List.take_succ_cons, List.take_zero, List.drop_succ_cons, List.drop_zero]
                        repeat still_step
                        still_call (dbl m2 m2l _)
                        repeat still_step
                        refine wpStill_nil ?_
                        go_wp2
                        refine ⟨⟨k + 1, hlk, num_succ k, ?_, SY3.out.drew, SB3.out.drew⟩, meas 4 k hlk⟩
                        rw [show c + (k + 1) = t + 1 by have := Ht.out; omega]
                        have q := S3.out.drew
                        rw [← VE.out] at q
                        exact q
                      · have t10 : ¬ (r : Int) < 10 := by have := Hr.out; omega
                        have VE := hid (show v1 = gt (stt F l (n + 1)) t by rw [VQ.out, ← Hy1.out, stt_last F l YL n t h10 HY.out t16])
                        clear h10
                        go_wp2
                        refine ⟨⟨k + 1, hlk, num_succ k, ?_, SY2.out, SB2.out⟩, meas 4 k hlk⟩
                        have q := S2.out
                        rw [VE.out, US.out] at q
                        rw [show c + (k + 1) = t + 1 by have := Ht.out; omega, VE.out]
                        exact q
                    · have hk4 : k = 4 := by omega
                      subst hk4
                      have hc := Hc.out
                      have CE := hid (show c + 4 = 4 * (m + 1) by omega)
                      clear hc hk hlk hs
                      go_wp2
                      refine ⟨⟨m + 1, c + 4, _, _, hlm, CE, rfl, rfl, rfl, X, Y, B⟩, ?_⟩
                      have hc := Hc.out
                      simp [intOf]
                      omega
                · have hm4 : m = 4 := by omega
                  subst hm4
                  have hc := Hc.out
                  rw [upd_end _ _ hs c (by rw [Hsl.out]; omega)] at X
                  have c16 : ¬ (c : Int) < 16 := by omega
                  clear hc hs
                  go_wp2
                  refine ⟨⟨n + 1, r + 1, _, _, _, _, YL, hlt, hid (by rw [Hr.out]), num_succ r, rfl, rfl, rfl, rfl, Hyn.out, X, Y, B⟩, ?_⟩
                  have hr := Hr.out
                  simp [intOf]
                  omega
        · have hn10 : n = 10 := by omega
          subst hn10
          have r11 : ¬ (r : Int) ≤ 10 := by have := Hr.out; omega
          have hO0 := own_lit0 wr
          obtain ⟨hi, hz0, hz1, hz2⟩ := HI.out
          have X1 := X.alloc (.cells #[] 5)
          have B1 := B.alloc B.size (.cells #[] 5)
          have sl := stt_len F l HL.out 10
          have HN : Hid (∀ j u, ((stt F l 10).map bv)[j]? = some u → (wr.alloc (.cells #[] 5)).cell? ((⟨w.heap.size, 0, none⟩ : Addr).add j) = some u) := fun j u hj => by
            have hj' : j < (stt F l 10).length := by
              rcases Nat.lt_or_ge j (stt F l 10).length with q | q
              · exact q
              · rw [List.getElem?_eq_none (by simpa using q)] at hj; cases hj
            rw [List.getElem?_map, List.getElem?_eq_getElem hj'] at hj
            cases hj
            rw [Addr.add_lit, Nat.zero_add, X1.cell j hj', gt_eq _ j hj']
            rfl
          have H1 : Hid (∀ u ∈ (stt F l 10).map bv, u.oneCell' = true) := fun u hu => by
            obtain ⟨x, _, rfl⟩ := List.mem_map.1 hu
            rfl
          have HS := hid sl
          have HB := hid B
          have HB1 := hid B1
          clear sl X1 B1 X Y B
          go_wp2_with (at_builtin; refine wpList_append_own _ rfl _ _ _ rfl wr.heap.size 5 i0 (.int .u8 0) 1 1 Try.underlying22 hi hz0 hz1 hz2 rfl (by omega) _ _ _ rfl hO0 ⟨w.heap.size, 0, none⟩ 16 16 ((stt F l 10).map bv) rfl (by simp [HS.out]) HN.out H1.out (by unfold maxLen; simp) (by simp) (by simp) ?_; intro v' w1 hown1 hgrow1 _)
          have hO1 : Own w1 wr.heap.size v' (enc F l) := by
            unfold Own enc
            rw [HS.out]
            simpa using hown1
          have hB1 : Below w.heap.size w w1 := HB1.out.grown hgrow1 (by have := HB.out.size; simp; omega) (fun x e => by have q : wr.heap.size = x := Option.some.inj e; rw [← q]; exact HB.out.size)
          have hO2 := hO1.mono (base' := w.heap.size) HB.out.size
          clear hown1 hgrow1 hO0 hO1 hi hz0 hz1 hz2
          go_wp2
          go_ret
          exact ⟨v', rfl, hO2, hB1⟩
end Go.Proofs.Ytckgjghpfjinfab.W
