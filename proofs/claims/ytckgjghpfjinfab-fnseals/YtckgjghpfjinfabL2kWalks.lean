/-
  The words of a key: what the model's l2Keys answers.
-/
import Derived.Test.YtckgjghpfjinfabKeysF
import Derived.Test.YtckgjghpfjinfabSlX
import Derived.Test.YtckgjghpfjinfabArrIx
import Derived.Test.YtckgjghpfjinfabSftWalks
import Derived.Test.YtckgjghpfjinfabSsubWalks
import Derived.StillTailTactics
import Derived.Deep.CutRange
namespace Go.Proofs.Ytckgjghpfjinfab.W
open Go.ChangeShapes Go.WideShapes Go.ChangeAt Go.RowKit
open Go.Proofs.Ytckgjghpfjinfab.M

theorem sft2k (k : Nat) (w : World) :
    Calls Try.prog 118 #[.int .u8 (xtN 1 k : Nat), .int .u8 2] w fun e w' => e = .returned (.int .u8 (xtN 1 (k + 1) : Nat)) ∧ w' = w := by
  have h := sft (xtN 1 k) 2 (xtN_lt 1 (by omega) k) (by omega) w
  rw [show ((2 : Nat) : Int) = 2 from rfl, ft2 _ (xtN_lt 1 (by omega) k)] at h
  exact h
theorem idx_row (g n c j : Nat) (z : Int) (hz : z = (j : Int)) (hj : j < n) (w : World) : (Instr.indexAt 22 (.slice (some ⟨g, 0, none⟩) n c) (.int .i64 z)).run Try.prog w = .ok (.pointer (some ⟨g, j, none⟩)) w := by
  subst hz
  have hs : ∀ w : World, (sizeOf (Try.prog.elem 22)).run Try.prog w = .ok 1 w := fun _ => by kernel_rfl
  rw [run_indexAt_slice (P := Try.prog) w 22 _ n c .i64 (j : Int) (by kernel_rfl)]
  simp [hs, hj, Result.andThen, Addr.add_lit]

set_option maxHeartbeats 2000000 in
set_option maxRecDepth 100000 in
theorem l2keys (v : Value) (key : List Nat) (w : World) (h : Rd w v key) (y : Byt key) (hk : key.length = 16) :
    Calls Try.prog 68 #[v] w fun e w' => e = .returned (.slice (some ⟨w.heap.size, 0, none⟩) 176 176) ∧ Ar w' w.heap.size 5 (rowTo 176 (kf key) 176) ∧ Below w.heap.size w w' := by
  obtain ⟨i0, hi, hz0, hz1, hz2⟩ := info_parts info8
  obtain ⟨b, o, cap, rfl, hcap, hb0⟩ := h.spot (by omega)
  have HC := hid (fun i hi => h.cells i hi)
  have HK := hid hk
  rw [hk] at hcap ⊢
  clear h hk
  go_enter Try.func68, Try.ntmps68
  go_wp2_with (at_make; refine wpList_make_full _ rfl _ _ 22 rfl w.heap.size 5 i0 (.int .u8 0) 1 Try.underlying22 hi hz0 hz1 .i64 .i64 _ _ 176 rfl rfl rfl rfl (by rw [hz2]; omega) (by unfold maxLen; omega) (Nat.le_refl _) ?_; intro w0 hown0 hgrow0)
  have A0 := (own_made w w0 176 hown0).ar (List.length_replicate ..)
  have hb1 := below_of_grown hgrow0 (Nat.le_refl _) (fun k hk => by simp at hk)
  obtain ⟨w1, hcp, hR1, hB1⟩ : ∃ w1, (Builtin.copy_ #[22, 22] 3 #[.slice (some ⟨w.heap.size, 0, none⟩) 176 176, .slice (some ⟨b, o, none⟩) 16 cap]).run Try.prog w0 = .ok (.int .i64 16) w1 ∧ Ar w1 w.heap.size 5 (rowTo 176 (kf key) 16) ∧ Below w.heap.size w w1 := by
    have hl : (key.map bv).length = 16 := by rw [List.length_map, HK.out]
    have hr := run_copy_row (P := Try.prog) w0 22 22 3 5 w.heap.size 0 176 176 ⟨b, o, none⟩ 16 cap _ 5 (key.map bv) Try.underlying22 (by kernel_rfl) A0 (by rw [hl]; rfl)
      (fun j u hj => by
        have hj' : j < key.length := by
          rcases Nat.lt_or_ge j key.length with q | q
          · exact q
          · rw [List.getElem?_eq_none (by simpa using q)] at hj; cases hj
        rw [List.getElem?_map, List.getElem?_eq_getElem hj'] at hj
        cases hj
        have q := cell_kept hb1 (HC.out j hj')
        rw [gt_eq key j hj'] at q
        rw [Addr.add_lit]
        exact q)
      (by rw [hl, arr_size, List.length_replicate]; omega) (by intro u hu; obtain ⟨x, _, rfl⟩ := List.mem_map.1 hu; rfl)
    rw [hl] at hr
    refine ⟨_, hr, ?_, below_setRow hb1 (Nat.le_refl _) _⟩
    have e : ((arr (List.replicate 176 0)).toList.take 0 ++ key.map bv ++ (arr (List.replicate 176 0)).toList.drop (0 + 16)) = (rowTo 176 (kf key) 16).map bv := by
      have f := rowTo_front 176 (kf key) key (by rw [HK.out]; omega) (fun j hj => kf_low key HK.out j (by rw [← HK.out]; exact hj))
      rw [HK.out] at f
      rw [f, arr, List.take_zero, List.nil_append, List.map_append, List.toList_toArray, List.map_replicate, List.map_replicate, List.drop_replicate]
    rw [e]
    exact setRow_heap w0 w.heap.size _ _ _ _ A0
  clear hown0 hgrow0 A0 hb1 hi hz0 hz1 hz2 HC
  rw [hcp]
  clear hcp
  go_wp2_with fail
  have KL := hid (kf_lt key y)
  have KS := hid (kf_step key HK.out)
  clear HK
  generalize hF : kf key = F at *
  have HF := hid hF
  clear hF
  go_loopw [4, 5, 6, 7] (fun c i t k' wr => ∃ n : Nat, ∃ u u2 : Value, n ≤ 40 ∧ i = .int .i64 (16 + 4 * n : Nat) ∧ c = .int .u8 (xtN 1 ((n + 3) / 4) : Nat) ∧ t = u ∧ k' = u2 ∧ Ar wr w.heap.size 5 (rowTo 176 F (16 + 4 * n)) ∧ Below w.heap.size w wr) (fun _ i _ _ _ => 176 - (intOf i).toNat)
  case atStart => exact ⟨0, _, _, by omega, rfl, rfl, rfl, rfl, hR1, hB1⟩
  case round =>
    obtain ⟨n, u, u2, hn, rfl, rfl, rfl, rfl, A, hB⟩ := hrel
    clear hR1 hB1
    by_cases hlt : n < 40
    · obtain ⟨i, hi⟩ : ∃ i, i = 16 + 4 * n := ⟨_, rfl⟩
      obtain ⟨p, hp⟩ : ∃ p, p = 12 + 4 * n := ⟨_, rfl⟩
      rw [← hi]
      rw [← hi] at A
      obtain ⟨p1, hp1⟩ : ∃ q, q = p + 1 := ⟨_, rfl⟩
      obtain ⟨p2, hp2⟩ : ∃ q, q = p + 2 := ⟨_, rfl⟩
      obtain ⟨p3, hp3⟩ : ∃ q, q = p + 3 := ⟨_, rfl⟩
      have d0 := A.cell p (by rw [rowTo_len]; omega)
      have d1 := A.cell p1 (by rw [rowTo_len]; omega)
      have d2 := A.cell p2 (by rw [rowTo_len]; omega)
      have d3 := A.cell p3 (by rw [rowTo_len]; omega)
      rw [rowTo_gt _ _ _ _ (by omega) (by omega)] at d0 d1 d2 d3
      have x0 := KL.out p
      have x1' := KL.out p1
      have x2 := KL.out p2
      have x3 := KL.out p3
      have i1 : 16 ≤ i := by omega
      have i2 : i ≤ 172 := by omega
      have e4 : (i : Int) - 4 = (p : Int) := by omega
      have e3 : (i : Int) - 3 = (p1 : Int) := by omega
      have e2 : (i : Int) - 2 = (p2 : Int) := by omega
      have e1 : (i : Int) - 1 = (p3 : Int) := by omega
      have v4 : IntKind.i64.wrap ((p : Nat) : Int) = ((p : Nat) : Int) := by rw [IntKind.wrap_i64]; omega
      have v3 : IntKind.i64.wrap (p1 : Int) = (p1 : Int) := by rw [IntKind.wrap_i64]; omega
      have v2 : IntKind.i64.wrap (p2 : Int) = (p2 : Int) := by rw [IntKind.wrap_i64]; omega
      have v1 : IntKind.i64.wrap (p3 : Int) = (p3 : Int) := by rw [IntKind.wrap_i64]; omega
      have ix4 := idx_row w.heap.size 176 176 p _ rfl (by omega)
      have ix3 := idx_row w.heap.size 176 176 p1 _ rfl (by omega)
      have ix2 := idx_row w.heap.size 176 176 p2 _ rfl (by omega)
      have ix1 := idx_row w.heap.size 176 176 p3 _ rfl (by omega)
      have D := hid (And.intro d0 (And.intro d1 (And.intro d2 d3)))
      have KA := hid (fun o : Obj => And.intro (cell_alloc d0 o) (And.intro (cell_alloc d1 o) (And.intro (cell_alloc d2 o) (cell_alloc d3 o))))
      have HA := hid A
      have HB := hid hB
      have Hi := hid hi
      have Hp := hid hp
      have Hp1 := hid hp1
      have Hp2 := hid hp2
      have Hp3 := hid hp3
      have hwr := A.lt
      clear A hB hi hp hp1 hp2 hp3 d0 d1 d2 d3
      have TY := hid (fun h => twl_yes F n p p1 p2 p3 h Hp.out Hp1.out Hp2.out Hp3.out)
      have TN := hid (fun h => twl_no F n p p1 p2 p3 h Hp.out Hp1.out Hp2.out Hp3.out)
      generalize F p = a0 at *
      generalize F p1 = a1 at *
      generalize F p2 = a2 at *
      generalize F p3 = a3 at *
      go_wp2_with fail
      go_region_held3 (fun w' => w'.cell? ⟨w.heap.size, p, none⟩ = some (.int .u8 (a0 : Nat)) ∧ w'.cell? ⟨w.heap.size, p1, none⟩ = some (.int .u8 (a1 : Nat)) ∧ w'.cell? ⟨w.heap.size, p2, none⟩ = some (.int .u8 (a2 : Nat)) ∧ w'.cell? ⟨w.heap.size, p3, none⟩ = some (.int .u8 (a3 : Nat))) (first | exact D.out | exact KA.out _) (fail)
      have T1 : Ar (wr.alloc (.cells #[.int .u8 (a0 : Nat), .int .u8 (a1 : Nat), .int .u8 (a2 : Nat), .int .u8 (a3 : Nat)] 155)).drew wr.heap.size 155 [a0, a1, a2, a3] := heap_alloc_new wr _
      have A1 := (HA.out.alloc (.cells #[.int .u8 (a0 : Nat), .int .u8 (a1 : Nat), .int .u8 (a2 : Nat), .int .u8 (a3 : Nat)] 155)).drew
      have B1 := (HB.out.alloc HB.out.size (.cells #[.int .u8 (a0 : Nat), .int .u8 (a1 : Nat), .int .u8 (a2 : Nat), .int .u8 (a3 : Nat)] 155)).drew
      have hg := A1.lt
      clear D KA HA HB e1 e2 e3 e4 v1 v2 v3 v4 ix1 ix2 ix3 ix4
      clear ‹_ ∧ _ ∧ _ ∧ _›
      generalize (wr.alloc (.cells #[.int .u8 (a0 : Nat), .int .u8 (a1 : Nat), .int .u8 (a2 : Nat), .int .u8 (a3 : Nat)] 155)).drew = x1 at *
      generalize wr.heap.size = g at *
      replace A1 := hid A1
      replace B1 := hid B1
      replace T1 := hid T1
      have em : (i : Int) % 16 = ((4 * (n % 4) : Nat) : Int) := by have := Hi.out; omega
      go_upto_if 39 with fail
      go_cut [4] from 12 to 76 (fun c wx => c = .int .u8 (xtN 1 ((n + 1 + 3) / 4) : Nat) ∧ Ar wx g 155 (twl F n) ∧ Ar wx w.heap.size 5 (rowTo 176 F i) ∧ Below w.heap.size w wx)
      case first =>
        by_cases hm : n % 4 = 0
        · have t39 : (4 * ((n : Int) % 4) == 0) = true := by rw [beq_iff_eq]; omega
          have TW := hid (TY.out hm)
          have c0 := T1.out.cell 0 (by simp)
          have c1 := T1.out.cell 1 (by simp)
          have c2 := T1.out.cell 2 (by simp)
          have c3 := T1.out.cell 3 (by simp)
          rw [show gt [a0, a1, a2, a3] 0 = a0 from rfl] at c0
          rw [show gt [a0, a1, a2, a3] 1 = a1 from rfl] at c1
          rw [show gt [a0, a1, a2, a3] 2 = a2 from rfl] at c2
          rw [show gt [a0, a1, a2, a3] 3 = a3 from rfl] at c3
          have hcc := xtN_lt 1 (by omega) ((n + 3) / 4)
          have E := xor8 _ _ (sbx_lt a1 x1') hcc
          have CS := hid (fun w => sft2k ((n + 3) / 4) w)
          have CE := hid (show xtN 1 ((n + 1 + 3) / 4) = xtN 1 ((n + 3) / 4 + 1) by rw [show (n + 1 + 3) / 4 = (n + 3) / 4 + 1 by omega])
          have Z4 := hid (show (Try.prog.info? 155).map (·.size) = some (arr [sbx a1 ^^^ xtN 1 ((n + 3) / 4), sbx a2, sbx a3, sbx a0]).size by rw [arr_size]; kernel_rfl)
          clear TY TN hm
          go_wp2_with fail
          refine wp_region_still_tail 15 (by kernel_rfl) (by kernel_rfl) ?_
          change wpStill _ _ (World.drew _) (fun a' => wpList _ _ _ _ a' (World.drew _)) _ _
          simp only [List.take_succ_cons, List.take_zero, List.drop_succ_cons, List.drop_zero]
          still_step
          still_step
          still_call (ssub a1 x1' _)
          still_step
          still_step
          still_step
          still_step
          still_call (ssub a2 x2 _)
          still_step
          still_step
          still_call (ssub a3 x3 _)
          still_step
          still_step
          still_call (ssub a0 x0 _)
          still_step
          refine wpStill_nil ?_
          refine wpList_store_row rfl 155 _ _ rfl g (arr [sbx a1 ^^^ xtN 1 ((n + 3) / 4), sbx a2, sbx a3, sbx a0]) rfl rfl 155 _ T1.out.drew Z4.out (by rw [arr_size, arr_size]; rfl) (arr_one _) ?_
          have T2 := hid (T1.out.drew.row (l' := [sbx a1 ^^^ xtN 1 ((n + 3) / 4), sbx a2, sbx a3, sbx a0]))
          have A2 := hid (A1.out.drew.rowFar (g' := g) (arr [sbx a1 ^^^ xtN 1 ((n + 3) / 4), sbx a2, sbx a3, sbx a0]) (by omega))
          have B2 := hid (below_row (B1.out.drew) (g := g) (by omega) (arr [sbx a1 ^^^ xtN 1 ((n + 3) / 4), sbx a2, sbx a3, sbx a0]))
          generalize x1.drew.setRow g (arr [sbx a1 ^^^ xtN 1 ((n + 3) / 4), sbx a2, sbx a3, sbx a0]) = x2w at *
          clear c0 c1 c2 c3 E
          go_wp2_with fail
          refine (CS.out _).mono ?_
          rintro e w' ⟨rfl, rfl⟩
          go_wp2_with fail
          go_meet
          case rel => exact ⟨by rw [CE.out], by rw [TW.out]; exact T2.out, A2.out, B2.out⟩
        · have t39 : (4 * ((n : Int) % 4) == 0) = false := by rw [beq_eq_false_iff_ne]; omega
          have TW := hid (TN.out hm)
          have CE := hid (show xtN 1 ((n + 1 + 3) / 4) = xtN 1 ((n + 3) / 4) by rw [show (n + 1 + 3) / 4 = (n + 3) / 4 by omega])
          clear TY TN hm
          go_wp2_with fail
          go_meet
          case rel => exact ⟨by rw [CE.out], by rw [TW.out]; exact T1.out, A1.out, B1.out⟩
      case rest =>
        obtain ⟨rfl, T2, A2, B2⟩ := hcut
        clear A1 B1 T1 TY TN x0 x1' x2 x3
        have KT := hid (fun k => tw_lt F KL.out n k)
        go_wp2_with fail
        have hB0 := B2.size
        have hgl := T2.lt
        go_loopw [7] (fun kk ws => ∃ k : Nat, k ≤ 4 ∧ kk = .int .i64 k ∧ Ar ws g 155 (twl F n) ∧ Ar ws w.heap.size 5 (rowTo 176 F (i + k)) ∧ Below w.heap.size w ws) (fun kk _ => 4 - (intOf kk).toNat)
        case atStart => exact ⟨0, by omega, rfl, T2, A2, B2⟩
        case round =>
          obtain ⟨k, hk4, rfl, T3, A3, B3⟩ := hrel
          clear T2 A2 B2
          by_cases hlk : k < 4
          · obtain ⟨m, hm⟩ : ∃ m, m = i + k := ⟨_, rfl⟩
            obtain ⟨q, hq⟩ : ∃ q, q = 4 * n + k := ⟨_, rfl⟩
            rw [← hm] at A3
            have hi' := Hi.out
            have c1 := A3.cell q (by rw [rowTo_len]; omega)
            rw [rowTo_gt _ _ _ _ (by omega) (by omega)] at c1
            have c2 := T3.cell k (by rw [twl_len]; exact hlk)
            rw [twl_gt _ _ _ hlk] at c2
            have c3 : ∃ u, wr.cell? ⟨w.heap.size, m, none⟩ = some u := ⟨_, A3.cell m (by rw [rowTo_len]; omega)⟩
            obtain ⟨u3, c3⟩ := c3
            have f3 := A3.open m
            have S := A3.stored m (F m)
            rw [rowTo_set 176 F m (by omega)] at S
            have ST := T3.far (g' := w.heap.size) (k := m) (.int .u8 (F m : Nat)) (by omega)
            have SB := B3.setCell (p := ⟨w.heap.size, m, none⟩) (Nat.le_refl _) (.int .u8 (F m : Nat))
            have hFm : F m = F q ^^^ tw F n k := by
              have := KS.out n k hlt hlk
              rw [show 16 + 4 * n + k = m by omega, show 4 * n + k = q by omega] at this
              exact this
            have y1 := KL.out q
            have y2 := KT.out k
            have E : bits .xor .u8 (F q : Nat) (tw F n k : Nat) = ((F m : Nat) : Int) := by rw [xor8 _ _ y1 y2, hFm]
            have e1 : (i : Int) + (k : Int) = (m : Int) := by omega
            have e2 : (m : Int) - 16 = (q : Int) := by omega
            have m1 : (m : Int) < 176 := by omega
            have m0 : (0 : Int) ≤ (m : Int) := by omega
            have q1 : (q : Int) < 176 := by omega
            have q0 : (0 : Int) ≤ (q : Int) := by omega
            have k0 : (0 : Int) ≤ (k : Int) := by omega
            have k1 : (k : Int) < 4 := by omega
            have v1 : IntKind.i64.wrap (m : Int) = (m : Int) := by rw [IntKind.wrap_i64]; omega
            have v2 : IntKind.i64.wrap (q : Int) = (q : Int) := by rw [IntKind.wrap_i64]; omega
            have Hm := hid hm
            replace S := hid S
            replace ST := hid ST
            replace SB := hid SB
            clear A3 T3 B3 hm hq hi' hFm
            generalize F q = z1 at *
            generalize tw F n k = z2 at *
            generalize F m = z3 at *
            go_wp2_with fail
            refine wp_region_still_tail 16 (by kernel_rfl) (by kernel_rfl) ?_
            change wpStill _ _ (World.drew _) (fun a' => wpList _ _ _ _ a' (World.drew _)) _ _
            simp only [List.take_succ_cons, List.take_zero, List.drop_succ_cons, List.drop_zero]
            repeat still_step
            refine wpStill_nil ?_
            go_wp2
            exact ⟨⟨k + 1, hlk, num_succ k, ST.out.drew, by rw [show i + (k + 1) = m + 1 by have := Hm.out; omega]; exact S.out.drew, SB.out.drew⟩, meas 4 k hlk⟩
          · have hk44 : k = 4 := by omega
            subst hk44
            have hi' := Hi.out
            go_wp2
            refine ⟨⟨n + 1, _, _, by omega, int_i64 (by omega), rfl, rfl, rfl, by rw [show 16 + 4 * (n + 1) = i + 4 by omega]; exact A3, B3⟩, ?_⟩
            simp [intOf]
            omega
    · have hn40 : n = 40 := by omega
      subst hn40
      rw [← HF.out] at A
      go_wp2
      go_ret
      exact ⟨rfl, A, hB⟩
end Go.Proofs.Ytckgjghpfjinfab.W
