/-
  The words of a key: what the program's expandKey answers.
-/
import Derived.Test.YtckgjghpfjinfaiKeysF
import Derived.Test.YtckgjghpfjinfaiTurnWalks
import Derived.Test.YtckgjghpfjinfaiIrconWalks
import Derived.Test.YtckgjghpfjinfaiSteps
import Derived.Deep.CutRange
namespace Go.Proofs.Ytckgjghpfjinfai.W
open Go.ChangeShapes Go.WideShapes Go.ChangeAt Go.RowKit
open Go.Proofs.Ytckgjghpfjinfai.M

theorem zero_words : ∀ w : World, (zeroValue 112).run Try.prog w = .ok (.agg (arr (zs 176))) w :=
  (zero_of_info (P := Try.prog) (t := 112) (v := .agg (arr (zs 176))) (n := 176) (by kernel_rfl)).1
theorem words_size (l : List Nat) (hl : l.length = 176) : (Try.prog.info? 112).map (·.size) = some (arr l).size := by rw [arr_size, hl]; kernel_rfl
theorem word_size (l : List Nat) (hl : l.length = 4) : (Try.prog.info? 111).map (·.size) = some (arr l).size := by rw [arr_size, hl]; kernel_rfl
/-- Where word i lies. -/
theorem idx_word (g o i : Nat) (hi : i < 44) (w : World) : (Instr.indexAt 112 (.pointer (some ⟨g, o, none⟩)) (.int .i64 (i : Int))).run Try.prog w = .ok (.pointer (some ⟨g, o + 4 * i, none⟩)) w := by
  have hs : ∀ w : World, (sizeOf (Try.prog.elem 112)).run Try.prog w = .ok 4 w := fun _ => by kernel_rfl
  have hl : Try.prog.arrayLen 112 = 44 := by kernel_rfl
  rw [run_indexAt_array (P := Try.prog) w 112 _ .i64 (i : Int) (by kernel_rfl), hl, if_pos (by omega), hs]
  simp [Result.andThen, Addr.add_lit, Nat.mul_comm]
theorem idx_byte (g o k : Nat) (hk : k < 4) (w : World) : (Instr.indexAt 111 (.pointer (some ⟨g, o, none⟩)) (.int .i64 (k : Int))).run Try.prog w = .ok (.pointer (some ⟨g, o + k, none⟩)) w := by
  have hs : ∀ w : World, (sizeOf (Try.prog.elem 111)).run Try.prog w = .ok 1 w := fun _ => by kernel_rfl
  have hl : Try.prog.arrayLen 111 = 4 := by kernel_rfl
  rw [run_indexAt_array (P := Try.prog) w 111 _ .i64 (k : Int) (by kernel_rfl), hl, if_pos (by omega), hs]
  simp [Result.andThen, Addr.add_lit]
/-- Four bytes of a key. -/
theorem cut_key (g c : Nat) (hc : c < 4) (w : World) : (Instr.sliceAt 62 (.pointer (some ⟨g, 0, none⟩)) (some (.int .i64 (4 * (c : Int)))) (some (.int .i64 (4 * ((c : Int) + 1)))) none).run Try.prog w = .ok (.slice (some ⟨g, 4 * c, none⟩) 4 (16 - 4 * c)) w := by
  have hs : ∀ w : World, (sizeOf (Try.prog.elem 62)).run Try.prog w = .ok 1 w := fun _ => by kernel_rfl
  rw [run_sliceAt_array_lh (P := Try.prog) w 62 _ (by kernel_rfl) .i64 .i64 (4 * (c : Int)) (4 * ((c : Int) + 1)) (by omega) (by omega) (by rw [show Try.prog.arrayLen 62 = 16 by kernel_rfl]; omega), hs]
  have e1 : (4 * (c : Int)).toNat = 4 * c := by omega
  have e2 : (4 * ((c : Int) + 1)).toNat = 4 * c + 4 := by omega
  have e3 : ¬ (16 = 4 * c) := by omega
  simp [Result.andThen, slicedAt, e1, e2, e3, Addr.add_lit, show Try.prog.arrayLen 62 = 16 by kernel_rfl]

set_option maxHeartbeats 2000000 in
set_option maxRecDepth 100000 in
theorem expk (key : List Nat) (gx : Nat) (w : World) (hk : key.length = 16) (y : Byt key) (hX : ∀ a, a < 256 → w.cell? ⟨gx, a, none⟩ = some (.int .u8 (sbx a : Nat))) :
    Calls Try.prog 78 #[.agg (arr key), .pointer (some ⟨gx, 0, none⟩)] w fun e w' => e = .returned (.agg (arr (rowTo 176 (kf key) 176))) ∧ Below w.heap.size w w' := by
  have hz1 := zero_words
  have HX := hid hX
  have HK := hid hk
  have KL := hid (kf_lt key y)
  have KS := hid (kf_step key hk)
  have KW := hid (kf_low key hk)
  clear hX
  go_enter Try.func78, Try.ntmps78
  go_wp2_with fail
  have K0 := ((Ar.new w 62 key).alloc (.cells (arr (zs 176)) 112)).alloc (.cells (arr (zs 176)) 112)
  have R0 : Ar ((w.alloc (.cells (arr key) 62)).alloc (.cells (arr (zs 176)) 112)) (w.heap.size + 1) 112 (zs 176) := heap_alloc2_new w _ _
  replace R0 := R0.alloc (.cells (arr (zs 176)) 112)
  have A0 : Ar (((w.alloc (.cells (arr key) 62)).alloc (.cells (arr (zs 176)) 112)).alloc (.cells (arr (zs 176)) 112)) (w.heap.size + 1 + 1) 112 (zs 176) := by
    have h := heap_alloc2_new (w.alloc (.cells (arr key) 62)) (.cells (arr (zs 176)) 112) (.cells (arr (zs 176)) 112)
    rw [World.size_alloc] at h
    exact h
  have B0 := (below_alloc2 w (.cells (arr key) 62) (.cells (arr (zs 176)) 112)).alloc (by simp; omega) (.cells (arr (zs 176)) 112)
  generalize ((w.alloc (.cells (arr key) 62)).alloc (.cells (arr (zs 176)) 112)).alloc (.cells (arr (zs 176)) 112) = W at *
  rw [← rowTo_zero 176 (kf key)] at A0
  obtain ⟨g, hg⟩ : ∃ g, g = w.heap.size + 1 + 1 := ⟨_, rfl⟩
  rw [← hg] at A0 ⊢
  have Hg := hid hg
  generalize hF : kf key = F at *
  have HF := hid hF
  clear hF hg hk
  go_loopw [6, 7, 8, 9] (fun s6 s7 s8 s9 wr => ∃ n : Nat, ∃ u6 u7 u8 : Value, n ≤ 44 ∧ s9 = .int .i64 n ∧ s6 = u6 ∧ s7 = u7 ∧ s8 = u8 ∧ Ar wr g 112 (rowTo 176 F (4 * n)) ∧ Ar wr (w.heap.size + 1) 112 (zs 176) ∧ Ar wr w.heap.size 62 key ∧ Below w.heap.size w wr) (fun _ _ _ s9 _ => 44 - (intOf s9).toNat)
  case atStart => exact ⟨0, _, _, _, by omega, rfl, rfl, rfl, rfl, A0, R0, K0, B0⟩
  case round =>
    obtain ⟨n, v6, v7, v8, hn, rfl, rfl, rfl, rfl, A, R, K, B⟩ := hrel
    clear A0 R0 K0 B0 hz1
    by_cases hlt : n < 44
    · have n0 : (0 : Int) ≤ (n : Int) := by omega
      have hgw := Hg.out
      by_cases h4 : n < 4
      · have n1 : (n : Int) < 4 := by omega
        have HS := cut_key w.heap.size n h4
        have HP := arr_at 111 5 4 Try.underlying111 (some ⟨w.heap.size, 4 * n, none⟩) 4 (16 - 4 * n) (Nat.le_refl _)
        have HI := idx_word g 0 n hlt
        rw [Nat.zero_add] at HI
        have hcl := sub_len key (4 * n) 4 (by rw [HK.out]; omega)
        have Z4 := hid (word_size (sub key (4 * n) 4) hcl)
        have ZL := hid hcl
        have RG := hid (K.range (4 * n) 4)
        have TH := hid (A.there (4 * n) 4 (by rw [rowTo_len]; omega))
        have SA := hid (A.set4 (by omega) (sub key (4 * n) 4) hcl (fun k hk => by rw [sub_gt _ _ _ _ hk, KW.out _ (by omega)]))
        have SR := hid (R.far4 (g' := g) (m := 4 * n) (by omega) (sub key (4 * n) 4) hcl)
        have SK := hid (K.far4 (g' := g) (m := 4 * n) (by omega) (sub key (4 * n) 4) hcl)
        have SB := hid (below_set4 (g := g) (m := 4 * n) B (by omega) (sub key (4 * n) 4) hcl)
        clear A R K B hcl hgw
        go_wp2_with (first | refine load_sub rfl 111 _ rfl w.heap.size (4 * n) rfl (sub key (4 * n) 4) RG.out _ Try.underlying111 rfl Z4.out ?_ | refine wpList_store_mid rfl 111 _ _ rfl g (4 * n) (arr (sub key (4 * n) 4)) rfl rfl (by rw [arr_size, ZL.out]; exact TH.out) Z4.out (arr_one _) ?_)
        exact ⟨⟨n + 1, _, _, _, hlt, num_succ n, rfl, rfl, rfl, SA.out, SR.out, SK.out, SB.out⟩, meas 44 n hlt⟩
      · obtain ⟨m, hm⟩ : ∃ m, n = m + 4 := ⟨n - 4, by omega⟩
        obtain ⟨j1, hj1⟩ : ∃ j, j = m + 3 := ⟨_, rfl⟩
        obtain ⟨p, hp⟩ : ∃ p, p = 12 + 4 * m := ⟨_, rfl⟩
        have n1 : ¬ (n : Int) < 4 := by omega
        have e1 : (n : Int) - 1 = (j1 : Int) := by omega
        have HI := idx_word g 0 j1 (by omega)
        rw [show 0 + 4 * j1 = p by omega] at HI
        have RG := hid (A.range4 (F p) (F (p + 1)) (F (p + 2)) (F (p + 3)) (p := p) (by rw [rowTo_len]; omega) (rowTo_gt _ _ _ _ (by omega) (by omega)) (rowTo_gt _ _ _ _ (by omega) (by omega)) (rowTo_gt _ _ _ _ (by omega) (by omega)) (rowTo_gt _ _ _ _ (by omega) (by omega)))
        have TY := hid (fun h => twl_yes F m p (p + 1) (p + 2) (p + 3) h hp rfl rfl rfl)
        have TN := hid (fun h => twl_no F m p (p + 1) (p + 2) (p + 3) h hp rfl rfl rfl)
        have x0 := KL.out p
        have x1 := KL.out (p + 1)
        have x2 := KL.out (p + 2)
        have x3 := KL.out (p + 3)
        generalize F p = a0 at *
        generalize F (p + 1) = a1 at *
        generalize F (p + 2) = a2 at *
        generalize F (p + 3) = a3 at *
        have Z4 := hid (word_size [a0, a1, a2, a3] rfl)
        have T1 := Ar.new wr 111 [a0, a1, a2, a3]
        have A1 := A.alloc (.cells (arr [a0, a1, a2, a3]) 111)
        have R1 := R.alloc (.cells (arr [a0, a1, a2, a3]) 111)
        have K1 := K.alloc (.cells (arr [a0, a1, a2, a3]) 111)
        have B1 := B.alloc B.size (.cells (arr [a0, a1, a2, a3]) 111)
        have hgt := A.lt
        have Hm := hid hm
        have Hp := hid hp
        have Hj := hid hj1
        have em : (n : Int) % 4 = ((m % 4 : Nat) : Int) := by omega
        clear A R K B hgw hm hp hj1 h4
        go_upto_if 30 with (first | refine load_sub rfl 111 _ rfl g p rfl [a0, a1, a2, a3] RG.out _ Try.underlying111 rfl Z4.out ?_ | refine wpList_store_row rfl 111 _ _ rfl wr.heap.size (arr [a0, a1, a2, a3]) rfl rfl 111 _ (heap_alloc_new wr _) Z4.out (by rw [arr_size]; rfl) (arr_one _) ?_)
        rw [World.setRow_alloc_new]
        generalize wr.alloc (.cells (arr [a0, a1, a2, a3]) 111) = x1w at *
        have Hgt : Hid (g < wr.heap.size) := hgt
        generalize wr.heap.size = gt at *
        replace T1 := hid T1
        replace A1 := hid A1
        replace R1 := hid R1
        replace K1 := hid K1
        replace B1 := hid B1
        go_cut [9] from 9 to 57 (fun c9 wx => c9 = .int .i64 n ∧ Ar wx gt 111 (twl F m) ∧ Ar wx g 112 (rowTo 176 F (4 * n)) ∧ Ar wx (w.heap.size + 1) 112 (zs 176) ∧ Ar wx w.heap.size 62 key ∧ Below w.heap.size w wx)
        case first =>
          by_cases hq : m % 4 = 0
          · have t30 : ((m : Int) % 4 == 0) = true := by rw [beq_iff_eq]; omega
            have TW := hid (TY.out hq)
            -- REGION 9
            obtain ⟨cc, hcc⟩ : ∃ c, c = xtN 1 ((m + 3) / 4) := ⟨_, rfl⟩
            rw [← hcc] at TW
            obtain ⟨dd, hdd⟩ : ∃ d, d = n / 4 := ⟨_, rfl⟩
            have hm' := Hm.out
            have CR : Hid (∀ w : World, Calls Try.prog 101 #[.int .i64 (dd : Int)] w fun e w' => e = .returned (.agg #[.int .i64 0, .int .i64 (cc : Nat)]) ∧ Below w.heap.size w w') := fun w => by
              have h := ircon (dd : Int) w
              have c1 : rcC (dd : Int) = 0 := by unfold rcC; rw [if_pos (by omega)]
              have c2 : rcV (dd : Int) = ((cc : Nat) : Int) := by unfold rcV; rw [if_pos (by omega), hcc, Int.toNat_natCast, show dd - 1 = (m + 3) / 4 by omega]
              rw [c1, c2] at h
              exact h
            have xc : cc < 256 := by rw [hcc]; exact xtN_lt 1 (by omega) _
            have e5 : (n : Int) / 4 = (dd : Int) := by omega
            have e6 : (n : Int).tdiv 4 = (dd : Int) := by rw [Int.tdiv_eq_ediv_of_nonneg (by omega)]; omega
            have ZT := hid (word_size [sbx a1 ^^^ cc, sbx a2, sbx a3, sbx a0] rfl)
            have e7 : IntKind.i64.wrap (dd : Int) = (dd : Int) := by rw [IntKind.wrap_i64]; omega
            have e8 : IntKind.u8.wrap (cc : Int) = (cc : Int) := by rw [IntKind.wrap_u8]; omega
            have hfl : ∀ w : World, (Instr.field 139 (.agg #[.int .i64 0, .int .i64 (cc : Int)]) 1).run Try.prog w = .ok (.int .i64 (cc : Int)) w := fun _ => by kernel_rfl
            have F1 := hid T1.out.drew
            have F2 := hid A1.out.drew
            have F3 := hid R1.out.drew
            have F4 := hid K1.out.drew
            have F5 := hid B1.out.drew
            clear TY TN hq hcc hdd hm' em T1 A1 R1 K1 B1
            go_wp2_with fail
            refine wp_region_held_drew (S := fun _ => True) (by kernel_rfl) trivial (fun hH => ?_)
            generalize x1w.drew = y1 at *
            refine wpAnyH_take (i := 1) (v := .pointer (some ⟨gx, 0, none⟩)) (by simp only [List.getElem?_toArray, List.getElem?_cons_succ, List.getElem?_cons_zero]; rfl) (by kernel_rfl) (by kernel_rfl) (by kernel_rfl) (by intro _ _ _ h; exact h) (Or.inl ⟨by rfl, fun w _ => by go_simp⟩) hH ?_
            simp only [Act.put, List.setIfInBounds_toArray, List.set_cons_zero, List.set_cons_succ]
            refine wpAnyH_take (i := 2) (v := .int .i64 (n : Int)) (by simp only [List.getElem?_toArray, List.getElem?_cons_succ, List.getElem?_cons_zero]; rfl) (by kernel_rfl) (by kernel_rfl) (by kernel_rfl) (by intro _ _ _ h; exact h) (Or.inl ⟨by rfl, fun w _ => by go_simp⟩) hH ?_
            simp only [Act.put, List.setIfInBounds_toArray, List.set_cons_zero, List.set_cons_succ]
            refine wpAnyH_take (i := 3) (v := .int .i64 (dd : Int)) (by simp only [List.getElem?_toArray, List.getElem?_cons_succ, List.getElem?_cons_zero]; rfl) (by kernel_rfl) (by kernel_rfl) (by kernel_rfl) (by intro _ _ _ h; exact h) (Or.inl ⟨by rfl, fun w _ => by go_simp⟩) hH ?_
            simp only [Act.put, List.setIfInBounds_toArray, List.set_cons_zero, List.set_cons_succ]
            refine wpAnyH_ready (rs := [0, 4]) (by kernel_rfl) (by simp) ?_
            refine AllReadyH.cons (by simp only [List.getElem?_toArray, List.getElem?_cons_zero]; rfl) (fun K hK => ?_) ?_
            · skip
              refine step_load_sub (by rfl) 111 _ (by rfl) gt 0 (by rfl) [a0, a1, a2, a3] (Ar.range4 F1.out a0 a1 a2 a3 (p := 0) (by simp) rfl rfl rfl rfl) _ Try.underlying111 rfl Z4.out ?_
              refine hK.out _ _ trivial (fun hH => ?_)
              clear hK K
              simp only [Act.put, List.setIfInBounds_toArray, List.set_cons_zero, List.set_cons_succ]
              refine wpAnyH_ready (rs := [4]) (by kernel_rfl) (by simp) ?_
              refine AllReadyH.cons (by simp only [List.getElem?_toArray, List.getElem?_cons_succ, List.getElem?_cons_zero]; rfl) (fun K hK => ?_) AllReadyH.nil
              go_simp
              refine (CR.out _).mono ?_
              rintro e y2 ⟨rfl, hM⟩
              refine hK.out _ _ trivial (fun hH => ?_)
              clear hK K
              replace F1 := hid (F1.out.below hM)
              replace F2 := hid (F2.out.below hM)
              replace F3 := hid (F3.out.below hM)
              replace F4 := hid (F4.out.below hM)
              replace F5 := hid (F5.out.trans (hM.mono F5.out.size))
              clear hM
              refine wpAnyH_take (i := 5) (v := .int .i64 (cc : Int)) (by simp only [List.getElem?_toArray, List.getElem?_cons_succ, List.getElem?_cons_zero]; rfl) (by kernel_rfl) (by kernel_rfl) (by kernel_rfl) (by intro _ _ _ h; exact h) (Or.inl ⟨by rfl, fun w _ => by go_simp⟩) hH ?_
              simp only [Act.put, List.setIfInBounds_toArray, List.set_cons_zero, List.set_cons_succ]
              refine wpAnyH_take (i := 6) (v := .int .u8 (cc : Int)) (by simp only [List.getElem?_toArray, List.getElem?_cons_succ, List.getElem?_cons_zero]; rfl) (by kernel_rfl) (by kernel_rfl) (by kernel_rfl) (by intro _ _ _ h; exact h) (Or.inl ⟨by rfl, fun w _ => by go_simp⟩) hH ?_
              simp only [Act.put, List.setIfInBounds_toArray, List.set_cons_zero, List.set_cons_succ]
              refine wpAnyH_ready (rs := [7]) (by kernel_rfl) (by simp) ?_
              refine AllReadyH.cons (by simp only [List.getElem?_toArray, List.getElem?_cons_succ, List.getElem?_cons_zero]; rfl) (fun K hK => ?_) AllReadyH.nil
              go_simp
              refine (turnd a0 a1 a2 a3 cc gx _ x0 x1 x2 x3 xc (fun a ha => cell_kept F5.out (HX.out a ha))).mono ?_
              rintro e y9 ⟨rfl, hM⟩
              refine hK.out _ _ trivial (fun hH => ?_)
              clear hK K
              replace F1 := hid (F1.out.below hM)
              replace F2 := hid (F2.out.below hM)
              replace F3 := hid (F3.out.below hM)
              replace F4 := hid (F4.out.below hM)
              replace F5 := hid (F5.out.trans (hM.mono F5.out.size))
              clear hM
              refine wpAnyH_ready (rs := [8]) (by kernel_rfl) (by simp) ?_
              refine AllReadyH.cons (by simp only [List.getElem?_toArray, List.getElem?_cons_succ, List.getElem?_cons_zero]; rfl) (fun K hK => ?_) AllReadyH.nil
              refine step_store_row (by rfl) _ _ _ (by rfl) gt (arr [sbx a1 ^^^ cc, sbx a2, sbx a3, sbx a0]) (by rfl) (by rfl) 111 _ F1.out ZT.out (by rw [arr_size, arr_size]; rfl) (arr_one _) ?_
              refine hK.out _ _ trivial (fun hH => ?_)
              clear hK K
              simp only [Act.put]
              refine wpAnyH_done (by kernel_rfl) ?_ _
              have q1 := Hgt.out
              have q2 := Hg.out
              have q3 := hid (show w.heap.size ≤ gt by omega)
              have q4 := hid (show g ≠ gt by omega)
              have q5 := hid (show w.heap.size + 1 ≠ gt by omega)
              have q6 := hid (show w.heap.size ≠ gt by omega)
              clear q1 q2
              go_wp2_with fail
              go_meet
              case rel => exact ⟨rfl, by rw [TW.out]; exact F1.out.row, F2.out.rowFar _ q4.out, F3.out.rowFar _ q5.out, F4.out.rowFar _ q6.out, below_row F5.out q3.out _⟩
            refine AllReadyH.cons (by simp only [List.getElem?_toArray, List.getElem?_cons_succ, List.getElem?_cons_zero]; rfl) (fun K hK => ?_) AllReadyH.nil
            go_simp
            refine (CR.out _).mono ?_
            rintro e y2 ⟨rfl, hM⟩
            refine hK.out _ _ trivial (fun hH => ?_)
            clear hK K
            replace F1 := hid (F1.out.below hM)
            replace F2 := hid (F2.out.below hM)
            replace F3 := hid (F3.out.below hM)
            replace F4 := hid (F4.out.below hM)
            replace F5 := hid (F5.out.trans (hM.mono F5.out.size))
            clear hM
            refine wpAnyH_take (i := 5) (v := .int .i64 (cc : Int)) (by simp only [List.getElem?_toArray, List.getElem?_cons_succ, List.getElem?_cons_zero]; rfl) (by kernel_rfl) (by kernel_rfl) (by kernel_rfl) (by intro _ _ _ h; exact h) (Or.inl ⟨by rfl, fun w _ => by go_simp⟩) hH ?_
            simp only [Act.put, List.setIfInBounds_toArray, List.set_cons_zero, List.set_cons_succ]
            refine wpAnyH_take (i := 6) (v := .int .u8 (cc : Int)) (by simp only [List.getElem?_toArray, List.getElem?_cons_succ, List.getElem?_cons_zero]; rfl) (by kernel_rfl) (by kernel_rfl) (by kernel_rfl) (by intro _ _ _ h; exact h) (Or.inl ⟨by rfl, fun w _ => by go_simp⟩) hH ?_
            simp only [Act.put, List.setIfInBounds_toArray, List.set_cons_zero, List.set_cons_succ]
            refine wpAnyH_ready (rs := [0]) (by kernel_rfl) (by simp) ?_
            refine AllReadyH.cons (by simp only [List.getElem?_toArray, List.getElem?_cons_zero]; rfl) (fun K hK => ?_) AllReadyH.nil
            refine step_load_sub (by rfl) 111 _ (by rfl) gt 0 (by rfl) [a0, a1, a2, a3] (Ar.range4 F1.out a0 a1 a2 a3 (p := 0) (by simp) rfl rfl rfl rfl) _ Try.underlying111 rfl Z4.out ?_
            refine hK.out _ _ trivial (fun hH => ?_)
            clear hK K
            simp only [Act.put, List.setIfInBounds_toArray, List.set_cons_zero, List.set_cons_succ]
            refine wpAnyH_ready (rs := [7]) (by kernel_rfl) (by simp) ?_
            refine AllReadyH.cons (by simp only [List.getElem?_toArray, List.getElem?_cons_succ, List.getElem?_cons_zero]; rfl) (fun K hK => ?_) AllReadyH.nil
            go_simp
            refine (turnd a0 a1 a2 a3 cc gx _ x0 x1 x2 x3 xc (fun a ha => cell_kept F5.out (HX.out a ha))).mono ?_
            rintro e y9 ⟨rfl, hM⟩
            refine hK.out _ _ trivial (fun hH => ?_)
            clear hK K
            replace F1 := hid (F1.out.below hM)
            replace F2 := hid (F2.out.below hM)
            replace F3 := hid (F3.out.below hM)
            replace F4 := hid (F4.out.below hM)
            replace F5 := hid (F5.out.trans (hM.mono F5.out.size))
            clear hM
            refine wpAnyH_ready (rs := [8]) (by kernel_rfl) (by simp) ?_
            refine AllReadyH.cons (by simp only [List.getElem?_toArray, List.getElem?_cons_succ, List.getElem?_cons_zero]; rfl) (fun K hK => ?_) AllReadyH.nil
            refine step_store_row (by rfl) _ _ _ (by rfl) gt (arr [sbx a1 ^^^ cc, sbx a2, sbx a3, sbx a0]) (by rfl) (by rfl) 111 _ F1.out ZT.out (by rw [arr_size, arr_size]; rfl) (arr_one _) ?_
            refine hK.out _ _ trivial (fun hH => ?_)
            clear hK K
            simp only [Act.put]
            refine wpAnyH_done (by kernel_rfl) ?_ _
            have q1 := Hgt.out
            have q2 := Hg.out
            have q3 := hid (show w.heap.size ≤ gt by omega)
            have q4 := hid (show g ≠ gt by omega)
            have q5 := hid (show w.heap.size + 1 ≠ gt by omega)
            have q6 := hid (show w.heap.size ≠ gt by omega)
            clear q1 q2
            go_wp2_with fail
            go_meet
            case rel => exact ⟨rfl, by rw [TW.out]; exact F1.out.row, F2.out.rowFar _ q4.out, F3.out.rowFar _ q5.out, F4.out.rowFar _ q6.out, below_row F5.out q3.out _⟩
          · have t30 : ((m : Int) % 4 == 0) = false := by rw [beq_eq_false_iff_ne]; omega
            have TW := hid (TN.out hq)
            clear TY TN hq
            go_wp2_with fail
            go_meet
            case rel => exact ⟨rfl, by rw [TW.out]; exact T1.out, A1.out, R1.out, K1.out, B1.out⟩
        case rest =>
          obtain ⟨rfl, T2, A2, R2, K2, B2⟩ := hcut
          clear A1 B1 T1 R1 K1 TY TN x0 x1 x2 x3 Z4 RG HI
          have KT := hid (fun k => tw_lt F KL.out m k)
          have hB0 := B2.size
          go_wp2_with fail
          go_loopw [8, 39] (fun s8 s39 ws => ∃ k : Nat, ∃ u : Value, k ≤ 4 ∧ s39 = .int .i64 k ∧ s8 = u ∧ Ar ws gt 111 (twl F m) ∧ Ar ws g 112 (rowTo 176 F (4 * n + k)) ∧ Ar ws (w.heap.size + 1) 112 (zs 176) ∧ Ar ws w.heap.size 62 key ∧ Below w.heap.size w ws) (fun _ s39 _ => 4 - (intOf s39).toNat)
          case atStart => exact ⟨0, _, by omega, rfl, rfl, T2, A2, R2, K2, B2⟩
          case round =>
            obtain ⟨k, v8', hk4, rfl, rfl, T3, A3, R3, K3, B3⟩ := hrel
            clear T2 A2 R2 K2 B2
            by_cases hlk : k < 4
            · obtain ⟨t, ht⟩ : ∃ t, t = 4 * n + k := ⟨_, rfl⟩
              obtain ⟨q, hq⟩ : ∃ q, q = 4 * m + k := ⟨_, rfl⟩
              have hm' := Hm.out
              have hgw := Hg.out
              rw [← ht] at A3
              have c1 := A3.cell q (by rw [rowTo_len]; omega)
              rw [rowTo_gt _ _ _ _ (by omega) (by omega)] at c1
              have c2 := T3.cell k (by rw [twl_len]; exact hlk)
              rw [twl_gt _ _ _ hlk] at c2
              have c3 : ∃ u, wr.cell? ⟨g, t, none⟩ = some u := ⟨_, A3.cell t (by rw [rowTo_len]; omega)⟩
              obtain ⟨u3, c3⟩ := c3
              have f3 := A3.open t
              have S := A3.stored t (F t)
              rw [rowTo_set 176 F t (by omega)] at S
              have ST := T3.far (g' := g) (k := t) (.int .u8 (F t : Nat)) (by have := Hgt.out; omega)
              have SR := R3.far (g' := g) (k := t) (.int .u8 (F t : Nat)) (by omega)
              have SK := K3.far (g' := g) (k := t) (.int .u8 (F t : Nat)) (by omega)
              have SB := B3.setCell (p := ⟨g, t, none⟩) (by simp; omega) (.int .u8 (F t : Nat))
              have hFm : F t = F q ^^^ tw F m k := by
                have := KS.out m k (by omega) hlk
                rw [show 16 + 4 * m + k = t by omega, show 4 * m + k = q by omega] at this
                exact this
              have y1 := KL.out q
              have y2 := KT.out k
              have E : bits .xor .u8 (F q : Nat) (tw F m k : Nat) = ((F t : Nat) : Int) := by rw [xor8 _ _ y1 y2, hFm]
              have e2 : (n : Int) - 4 = (m : Int) := by omega
              have k0 : (0 : Int) ≤ (k : Int) := by omega
              have k1 : (k : Int) < 4 := by omega
              have I1 := idx_word g 0 m (by omega)
              have I2 := idx_word g 0 n (by omega)
              rw [Nat.zero_add] at I1 I2
              have J1 := idx_byte g (4 * m) k hlk
              have J2 := idx_byte g (4 * n) k hlk
              rw [show 4 * m + k = q by omega] at J1
              rw [show 4 * n + k = t by omega] at J2
              have J3 := idx_byte gt 0 k hlk
              rw [Nat.zero_add] at J3
              have v2 : IntKind.i64.wrap (m : Int) = (m : Int) := by rw [IntKind.wrap_i64]; omega
              have Ht := hid ht
              replace S := hid S
              replace ST := hid ST
              replace SR := hid SR
              replace SK := hid SK
              replace SB := hid SB
              clear A3 T3 R3 K3 B3 ht hq hm' hFm hgw
              generalize F q = z1 at *
              generalize tw F m k = z2 at *
              generalize F t = z3 at *
              go_wp2_with fail
              refine wp_region_still_tail 14 (by kernel_rfl) (by kernel_rfl) ?_
              change wpStill _ _ (World.drew _) (fun a' => wpList _ _ _ _ a' (World.drew _)) _ _
              simp only [List.take_succ_cons, List.take_zero, List.drop_succ_cons, List.drop_zero]
              repeat still_step
              refine wpStill_nil ?_
              go_wp2
              exact ⟨⟨k + 1, _, hlk, num_succ k, rfl, ST.out.drew, by rw [show 4 * n + (k + 1) = t + 1 by have := Ht.out; omega]; exact S.out.drew, SR.out.drew, SK.out.drew, SB.out.drew⟩, meas 4 k hlk⟩
            · have hk44 : k = 4 := by omega
              subst hk44
              go_wp2
              exact ⟨⟨n + 1, _, _, _, hlt, num_succ n, rfl, rfl, rfl, by rw [show 4 * (n + 1) = 4 * n + 4 by omega]; exact A3, R3, K3, B3⟩, meas 44 n hlt⟩
    · have hn44 : n = 44 := by omega
      subst hn44
      rw [show 4 * 44 = 176 from rfl, ← HF.out] at A
      have Z := hid (words_size (rowTo 176 (kf key) 176) (rowTo_len _ _ _))
      have SR := hid (R.row (l' := rowTo 176 (kf key) 176))
      have SB := hid (below_row B (g := w.heap.size + 1) (by omega) (arr (rowTo 176 (kf key) 176)))
      have ho := hid (show (arr (zs 176)).size = (arr (rowTo 176 (kf key) 176)).size by rw [arr_size, arr_size, zs_len, rowTo_len])
      replace A := hid A
      replace R := hid R
      clear K B hlt
      go_wp2_with (first | refine wpList_load_row rfl 112 _ rfl g rfl 112 (arr (rowTo 176 (kf key) 176)) _ _ A.out Try.underlying112 rfl Z.out ?_ | refine wpList_store_row rfl 112 _ _ rfl (w.heap.size + 1) (arr (rowTo 176 (kf key) 176)) rfl rfl 112 _ R.out Z.out ho.out (arr_one _) ?_)
      exact bodyPost_ret (v := .agg (arr (rowTo 176 (kf key) 176))) (results_cell_row rfl _ _ (w.heap.size + 1) 112 _ _ _ rfl SR.out Try.underlying112 rfl Z.out) rfl ⟨rfl, SB.out⟩
end Go.Proofs.Ytckgjghpfjinfai.W
