/-
  The words of a key: what the program's expandKey answers.
  The box of the byte whose inverse is known: what the program's boxOfInverse answers.
  The whole box: what the program's makeBox answers.
  What a key needs for all blocks: its box and its words, as one row of memory.
  What a key needs for all blocks: what the program's cipherOf answers.
  The bytes of a block by the box, in place: what the program's method subBytes does.
  The rows of a block turned, in place: what the program's method shiftRows does.
  The columns of a block mixed, in place: what the program's method mixColumns does.
  A round key added to a block, in place: what the program's method addKey does.
  A block by a key that is worked out: what the program's method encrypt answers.
  A block as a group element: the program's elementOf.
  A block counted up: the program's counted.
  What hides data: the mask and the count as the program keeps them. Plain mathematics: no program is named here.
  What is hidden: the program's stream.
-/
import Derived.Test.YtckgjghpfjinfakGreatKeysF
import Derived.Test.YtckgjghpfjinfakGreatGESealLetter2
import Derived.Deep.CutRange
import Derived.Test.YtckgjghpfjinfakGreatRows
import Derived.Test.YtckgjghpfjinfakGreatBox
import Derived.WalkKit
import Derived.ProofKit
import Derived.WalkSpells
import Derived.Test.YtckgjghpfjinfakGreatGESealLetter1
import Derived.Test.YtckgjghpfjinfakGreatEncF
import Derived.Test.YtckgjghpfjinfakGreatSlX
import Derived.StillTailTactics
import Derived.Test.YtckgjghpfjinfakGreatCtrF
import Derived.Test.YtckgjghpfjinfakGreatSealF

namespace Go.Proofs.YtckgjghpfjinfakGreat.W
open Go.ChangeShapes Go.WideShapes Go.ChangeAt Go.RowKit
open Go.Proofs.YtckgjghpfjinfakGreat.M

theorem zero_words : ∀ w : World, (zeroValue 132).run Tryz.prog w = .ok (.agg (arr (zs 176))) w :=
  (zero_of_info (P := Tryz.prog) (t := 132) (v := .agg (arr (zs 176))) (n := 176) (by kernel_rfl)).1
theorem words_size (l : List Nat) (hl : l.length = 176) : (Tryz.prog.info? 132).map (·.size) = some (arr l).size := by rw [arr_size, hl]; kernel_rfl
theorem word_size (l : List Nat) (hl : l.length = 4) : (Tryz.prog.info? 131).map (·.size) = some (arr l).size := by rw [arr_size, hl]; kernel_rfl
/-- Where word i lies. -/
theorem idx_word (g o i : Nat) (hi : i < 44) (w : World) : (Instr.indexAt 132 (.pointer (some ⟨g, o, none⟩)) (.int .i64 (i : Int))).run Tryz.prog w = .ok (.pointer (some ⟨g, o + 4 * i, none⟩)) w := by
  have hs : ∀ w : World, (sizeOf (Tryz.prog.elem 132)).run Tryz.prog w = .ok 4 w := fun _ => by kernel_rfl
  have hl : Tryz.prog.arrayLen 132 = 44 := by kernel_rfl
  rw [run_indexAt_array (P := Tryz.prog) w 132 _ .i64 (i : Int) (by kernel_rfl), hl, if_pos (by omega), hs]
  simp [Result.andThen, Addr.add_lit, Nat.mul_comm]
theorem idx_byte (g o k : Nat) (hk : k < 4) (w : World) : (Instr.indexAt 131 (.pointer (some ⟨g, o, none⟩)) (.int .i64 (k : Int))).run Tryz.prog w = .ok (.pointer (some ⟨g, o + k, none⟩)) w := by
  have hs : ∀ w : World, (sizeOf (Tryz.prog.elem 131)).run Tryz.prog w = .ok 1 w := fun _ => by kernel_rfl
  have hl : Tryz.prog.arrayLen 131 = 4 := by kernel_rfl
  rw [run_indexAt_array (P := Tryz.prog) w 131 _ .i64 (k : Int) (by kernel_rfl), hl, if_pos (by omega), hs]
  simp [Result.andThen, Addr.add_lit]
/-- Four bytes of a key. -/
theorem cut_key (g c : Nat) (hc : c < 4) (w : World) : (Instr.sliceAt 61 (.pointer (some ⟨g, 0, none⟩)) (some (.int .i64 (4 * (c : Int)))) (some (.int .i64 (4 * ((c : Int) + 1)))) none).run Tryz.prog w = .ok (.slice (some ⟨g, 4 * c, none⟩) 4 (16 - 4 * c)) w := by
  have hs : ∀ w : World, (sizeOf (Tryz.prog.elem 61)).run Tryz.prog w = .ok 1 w := fun _ => by kernel_rfl
  rw [run_sliceAt_array_lh (P := Tryz.prog) w 61 _ (by kernel_rfl) .i64 .i64 (4 * (c : Int)) (4 * ((c : Int) + 1)) (by omega) (by omega) (by rw [show Tryz.prog.arrayLen 61 = 16 by kernel_rfl]; omega), hs]
  have e1 : (4 * (c : Int)).toNat = 4 * c := by omega
  have e2 : (4 * ((c : Int) + 1)).toNat = 4 * c + 4 := by omega
  have e3 : ¬ (16 = 4 * c) := by omega
  simp [Result.andThen, slicedAt, e1, e2, e3, Addr.add_lit, show Tryz.prog.arrayLen 61 = 16 by kernel_rfl]

set_option maxHeartbeats 2000000 in
set_option maxRecDepth 100000 in
theorem expk (key : List Nat) (gx : Nat) (w : World) (hk : key.length = 16) (y : Byt key) (hX : ∀ a, a < 256 → w.cell? ⟨gx, a, none⟩ = some (.int .u8 (sbx a : Nat))) :
    Calls Tryz.prog 85 #[.agg (arr key), .pointer (some ⟨gx, 0, none⟩)] w fun e w' => e = .returned (.agg (arr (rowTo 176 (kf key) 176))) ∧ Below w.heap.size w w' := by
  have hz1 := zero_words
  have HX := hid hX
  have HK := hid hk
  have KL := hid (kf_lt key y)
  have KS := hid (kf_step key hk)
  have KW := hid (kf_low key hk)
  clear hX
  go_enter Tryz.func85, Tryz.ntmps85
  go_wp2_with fail
  have K0 := ((Ar.new w 61 key).alloc (.cells (arr (zs 176)) 132)).alloc (.cells (arr (zs 176)) 132)
  have R0 : Ar ((w.alloc (.cells (arr key) 61)).alloc (.cells (arr (zs 176)) 132)) (w.heap.size + 1) 132 (zs 176) := heap_alloc2_new w _ _
  replace R0 := R0.alloc (.cells (arr (zs 176)) 132)
  have A0 : Ar (((w.alloc (.cells (arr key) 61)).alloc (.cells (arr (zs 176)) 132)).alloc (.cells (arr (zs 176)) 132)) (w.heap.size + 1 + 1) 132 (zs 176) := by
    have h := heap_alloc2_new (w.alloc (.cells (arr key) 61)) (.cells (arr (zs 176)) 132) (.cells (arr (zs 176)) 132)
    rw [World.size_alloc] at h
    exact h
  have B0 := (below_alloc2 w (.cells (arr key) 61) (.cells (arr (zs 176)) 132)).alloc (by simp; omega) (.cells (arr (zs 176)) 132)
  generalize ((w.alloc (.cells (arr key) 61)).alloc (.cells (arr (zs 176)) 132)).alloc (.cells (arr (zs 176)) 132) = W at *
  rw [← rowTo_zero 176 (kf key)] at A0
  obtain ⟨g, hg⟩ : ∃ g, g = w.heap.size + 1 + 1 := ⟨_, rfl⟩
  rw [← hg] at A0 ⊢
  have Hg := hid hg
  generalize hF : kf key = F at *
  have HF := hid hF
  clear hF hg hk
  go_loopw [6, 7, 8, 9] (fun s6 s7 s8 s9 wr => ∃ n : Nat, ∃ u6 u7 u8 : Value, n ≤ 44 ∧ s9 = .int .i64 n ∧ s6 = u6 ∧ s7 = u7 ∧ s8 = u8 ∧ Ar wr g 132 (rowTo 176 F (4 * n)) ∧ Ar wr (w.heap.size + 1) 132 (zs 176) ∧ Ar wr w.heap.size 61 key ∧ Below w.heap.size w wr) (fun _ _ _ s9 _ => 44 - (intOf s9).toNat)
  case atStart => exact ⟨0, _, _, _, by omega, rfl, rfl, rfl, rfl, A0, R0, K0, B0⟩
  case round =>
    obtain ⟨n, v6, v7, v8, hn, rfl, rfl, rfl, rfl, A, R, K, B⟩ := hrel
    clear A0 R0 K0 B0 hz1
    by_cases hlt : n < 44
    · have n0 : (0 : Int) ≤ (n : Int) := by omega
      have hgw := Hg.out
      by_cases h4 : n < 4
      · have n1 : (n : Int) < 4 := by omega
        have HS := cut_key w.heap.size n h4
        have HP := arr_at 131 5 4 Tryz.underlying131 (some ⟨w.heap.size, 4 * n, none⟩) 4 (16 - 4 * n) (Nat.le_refl _)
        have HI := idx_word g 0 n hlt
        rw [Nat.zero_add] at HI
        have hcl := sub_len key (4 * n) 4 (by rw [HK.out]; omega)
        have Z4 := hid (word_size (sub key (4 * n) 4) hcl)
        have ZL := hid hcl
        have RG := hid (K.range (4 * n) 4)
        have TH := hid (A.there (4 * n) 4 (by rw [rowTo_len]; omega))
        have SA := hid (A.set4 (by omega) (sub key (4 * n) 4) hcl (fun k hk => by rw [sub_gt _ _ _ _ hk, KW.out _ (by omega)]))
        have SR := hid (R.far4 (g' := g) (m := 4 * n) (by omega) (sub key (4 * n) 4) hcl)
        have SK := hid (K.far4 (g' := g) (m := 4 * n) (by omega) (sub key (4 * n) 4) hcl)
        have SB := hid (below_set4 (g := g) (m := 4 * n) B (by omega) (sub key (4 * n) 4) hcl)
        clear A R K B hcl hgw
        go_wp2_with (first | refine load_sub rfl 131 _ rfl w.heap.size (4 * n) rfl (sub key (4 * n) 4) RG.out _ Tryz.underlying131 rfl Z4.out ?_ | refine wpList_store_mid rfl 131 _ _ rfl g (4 * n) (arr (sub key (4 * n) 4)) rfl rfl (by rw [arr_size, ZL.out]; exact TH.out) Z4.out (arr_one _) ?_)
        exact ⟨⟨n + 1, _, _, _, hlt, num_succ n, rfl, rfl, rfl, SA.out, SR.out, SK.out, SB.out⟩, meas 44 n hlt⟩
      · obtain ⟨m, hm⟩ : ∃ m, n = m + 4 := ⟨n - 4, by omega⟩
        obtain ⟨j1, hj1⟩ : ∃ j, j = m + 3 := ⟨_, rfl⟩
        obtain ⟨p, hp⟩ : ∃ p, p = 12 + 4 * m := ⟨_, rfl⟩
        have n1 : ¬ (n : Int) < 4 := by omega
        have e1 : (n : Int) - 1 = (j1 : Int) := by omega
        have HI := idx_word g 0 j1 (by omega)
        rw [show 0 + 4 * j1 = p by omega] at HI
        have RG := hid (A.range4 (F p) (F (p + 1)) (F (p + 2)) (F (p + 3)) (p := p) (by rw [rowTo_len]; omega) (rowTo_gt _ _ _ _ (by omega) (by omega)) (rowTo_gt _ _ _ _ (by omega) (by omega)) (rowTo_gt _ _ _ _ (by omega) (by omega)) (rowTo_gt _ _ _ _ (by omega) (by omega)))
        have TY := hid (fun h => twl_yes F m p (p + 1) (p + 2) (p + 3) h hp rfl rfl rfl)
        have TN := hid (fun h => twl_no F m p (p + 1) (p + 2) (p + 3) h hp rfl rfl rfl)
        have x0 := KL.out p
        have x1 := KL.out (p + 1)
        have x2 := KL.out (p + 2)
        have x3 := KL.out (p + 3)
        generalize F p = a0 at *
        generalize F (p + 1) = a1 at *
        generalize F (p + 2) = a2 at *
        generalize F (p + 3) = a3 at *
        have Z4 := hid (word_size [a0, a1, a2, a3] rfl)
        have T1 := Ar.new wr 131 [a0, a1, a2, a3]
        have A1 := A.alloc (.cells (arr [a0, a1, a2, a3]) 131)
        have R1 := R.alloc (.cells (arr [a0, a1, a2, a3]) 131)
        have K1 := K.alloc (.cells (arr [a0, a1, a2, a3]) 131)
        have B1 := B.alloc B.size (.cells (arr [a0, a1, a2, a3]) 131)
        have hgt := A.lt
        have Hm := hid hm
        have Hp := hid hp
        have Hj := hid hj1
        have em : (n : Int) % 4 = ((m % 4 : Nat) : Int) := by omega
        clear A R K B hgw hm hp hj1 h4
        go_upto_if 30 with (first | refine load_sub rfl 131 _ rfl g p rfl [a0, a1, a2, a3] RG.out _ Tryz.underlying131 rfl Z4.out ?_ | refine wpList_store_row rfl 131 _ _ rfl wr.heap.size (arr [a0, a1, a2, a3]) rfl rfl 131 _ (heap_alloc_new wr _) Z4.out (by rw [arr_size]; rfl) (arr_one _) ?_)
        rw [World.setRow_alloc_new]
        generalize wr.alloc (.cells (arr [a0, a1, a2, a3]) 131) = x1w at *
        have Hgt : Hid (g < wr.heap.size) := hgt
        generalize wr.heap.size = gt at *
        replace T1 := hid T1
        replace A1 := hid A1
        replace R1 := hid R1
        replace K1 := hid K1
        replace B1 := hid B1
        go_cut [9] from 9 to 57 (fun c9 wx => c9 = .int .i64 n ∧ Ar wx gt 131 (twl F m) ∧ Ar wx g 132 (rowTo 176 F (4 * n)) ∧ Ar wx (w.heap.size + 1) 132 (zs 176) ∧ Ar wx w.heap.size 61 key ∧ Below w.heap.size w wx)
        case first =>
          by_cases hq : m % 4 = 0
          · have t30 : ((m : Int) % 4 == 0) = true := by rw [beq_iff_eq]; omega
            have TW := hid (TY.out hq)
            -- REGION 9
            obtain ⟨cc, hcc⟩ : ∃ c, c = xtN 1 ((m + 3) / 4) := ⟨_, rfl⟩
            rw [← hcc] at TW
            obtain ⟨dd, hdd⟩ : ∃ d, d = n / 4 := ⟨_, rfl⟩
            have hm' := Hm.out
            have CR : Hid (∀ w : World, Calls Tryz.prog 98 #[.int .i64 (dd : Int)] w fun e w' => e = .returned (.agg #[.int .i64 0, .int .i64 (cc : Nat)]) ∧ Below w.heap.size w w') := fun w => by
              have h := ircon (dd : Int) w
              have c1 : rcC (dd : Int) = 0 := by unfold rcC; rw [if_pos (by omega)]
              have c2 : rcV (dd : Int) = ((cc : Nat) : Int) := by unfold rcV; rw [if_pos (by omega), hcc, Int.toNat_natCast, show dd - 1 = (m + 3) / 4 by omega]
              rw [c1, c2] at h
              exact h
            have xc : cc < 256 := by rw [hcc]; exact xtN_lt 1 (by omega) _
            have e5 : (n : Int) / 4 = (dd : Int) := by omega
            have e6 : (n : Int).tdiv 4 = (dd : Int) := by rw [Int.tdiv_eq_ediv_of_nonneg (by omega)]; omega
            have ZT := hid (word_size [sbx a1 ^^^ cc, sbx a2, sbx a3, sbx a0] rfl)
            have e7 : IntKind.i64.wrap (dd : Int) = (dd : Int) := by rw [IntKind.wrap_i64]; omega
            have e8 : IntKind.u8.wrap (cc : Int) = (cc : Int) := by rw [IntKind.wrap_u8]; omega
            have hfl : ∀ w : World, (Instr.field 147 (.agg #[.int .i64 0, .int .i64 (cc : Int)]) 1).run Tryz.prog w = .ok (.int .i64 (cc : Int)) w := fun _ => by kernel_rfl
            have F1 := hid T1.out.drew
            have F2 := hid A1.out.drew
            have F3 := hid R1.out.drew
            have F4 := hid K1.out.drew
            have F5 := hid B1.out.drew
            clear TY TN hq hcc hdd hm' em T1 A1 R1 K1 B1
            go_wp2_with fail
            refine wp_region_held_drew (S := fun _ => True) (by kernel_rfl) trivial (fun hH => ?_)
            generalize x1w.drew = y1 at *
            refine wpAnyH_take (i := 1) (v := .pointer (some ⟨gx, 0, none⟩)) (by simp only [List.getElem?_toArray, List.getElem?_cons_succ, List.getElem?_cons_zero]; rfl) (by kernel_rfl) (by kernel_rfl) (by kernel_rfl) (by intro _ _ _ h; exact h) (Or.inl ⟨by rfl, fun w _ => by go_simp⟩) hH ?_
            simp only [Act.put, List.setIfInBounds_toArray, List.set_cons_zero, List.set_cons_succ]
            refine wpAnyH_take (i := 2) (v := .int .i64 (n : Int)) (by simp only [List.getElem?_toArray, List.getElem?_cons_succ, List.getElem?_cons_zero]; rfl) (by kernel_rfl) (by kernel_rfl) (by kernel_rfl) (by intro _ _ _ h; exact h) (Or.inl ⟨by rfl, fun w _ => by go_simp⟩) hH ?_
            simp only [Act.put, List.setIfInBounds_toArray, List.set_cons_zero, List.set_cons_succ]
            refine wpAnyH_take (i := 3) (v := .int .i64 (dd : Int)) (by simp only [List.getElem?_toArray, List.getElem?_cons_succ, List.getElem?_cons_zero]; rfl) (by kernel_rfl) (by kernel_rfl) (by kernel_rfl) (by intro _ _ _ h; exact h) (Or.inl ⟨by rfl, fun w _ => by go_simp⟩) hH ?_
            simp only [Act.put, List.setIfInBounds_toArray, List.set_cons_zero, List.set_cons_succ]
            refine wpAnyH_ready (rs := [0, 4]) (by kernel_rfl) (by simp) ?_
            refine AllReadyH.cons (by simp only [List.getElem?_toArray, List.getElem?_cons_zero]; rfl) (fun K hK => ?_) ?_
            · skip
              refine step_load_sub (by rfl) 131 _ (by rfl) gt 0 (by rfl) [a0, a1, a2, a3] (Ar.range4 F1.out a0 a1 a2 a3 (p := 0) (by simp) rfl rfl rfl rfl) _ Tryz.underlying131 rfl Z4.out ?_
              refine hK.out _ _ trivial (fun hH => ?_)
              clear hK K
              simp only [Act.put, List.setIfInBounds_toArray, List.set_cons_zero, List.set_cons_succ]
              refine wpAnyH_ready (rs := [4]) (by kernel_rfl) (by simp) ?_
              refine AllReadyH.cons (by simp only [List.getElem?_toArray, List.getElem?_cons_succ, List.getElem?_cons_zero]; rfl) (fun K hK => ?_) AllReadyH.nil
              go_simp
              refine (CR.out _).mono ?_
              rintro e y2 ⟨rfl, hM⟩
              refine hK.out _ _ trivial (fun hH => ?_)
              clear hK K
              replace F1 := hid (F1.out.below hM)
              replace F2 := hid (F2.out.below hM)
              replace F3 := hid (F3.out.below hM)
              replace F4 := hid (F4.out.below hM)
              replace F5 := hid (F5.out.trans (hM.mono F5.out.size))
              clear hM
              refine wpAnyH_take (i := 5) (v := .int .i64 (cc : Int)) (by simp only [List.getElem?_toArray, List.getElem?_cons_succ, List.getElem?_cons_zero]; rfl) (by kernel_rfl) (by kernel_rfl) (by kernel_rfl) (by intro _ _ _ h; exact h) (Or.inl ⟨by rfl, fun w _ => by go_simp⟩) hH ?_
              simp only [Act.put, List.setIfInBounds_toArray, List.set_cons_zero, List.set_cons_succ]
              refine wpAnyH_take (i := 6) (v := .int .u8 (cc : Int)) (by simp only [List.getElem?_toArray, List.getElem?_cons_succ, List.getElem?_cons_zero]; rfl) (by kernel_rfl) (by kernel_rfl) (by kernel_rfl) (by intro _ _ _ h; exact h) (Or.inl ⟨by rfl, fun w _ => by go_simp⟩) hH ?_
              simp only [Act.put, List.setIfInBounds_toArray, List.set_cons_zero, List.set_cons_succ]
              refine wpAnyH_ready (rs := [7]) (by kernel_rfl) (by simp) ?_
              refine AllReadyH.cons (by simp only [List.getElem?_toArray, List.getElem?_cons_succ, List.getElem?_cons_zero]; rfl) (fun K hK => ?_) AllReadyH.nil
              go_simp
              refine (turnd a0 a1 a2 a3 cc gx _ x0 x1 x2 x3 xc (fun a ha => cell_kept F5.out (HX.out a ha))).mono ?_
              rintro e y9 ⟨rfl, hM⟩
              refine hK.out _ _ trivial (fun hH => ?_)
              clear hK K
              replace F1 := hid (F1.out.below hM)
              replace F2 := hid (F2.out.below hM)
              replace F3 := hid (F3.out.below hM)
              replace F4 := hid (F4.out.below hM)
              replace F5 := hid (F5.out.trans (hM.mono F5.out.size))
              clear hM
              refine wpAnyH_ready (rs := [8]) (by kernel_rfl) (by simp) ?_
              refine AllReadyH.cons (by simp only [List.getElem?_toArray, List.getElem?_cons_succ, List.getElem?_cons_zero]; rfl) (fun K hK => ?_) AllReadyH.nil
              refine step_store_row (by rfl) _ _ _ (by rfl) gt (arr [sbx a1 ^^^ cc, sbx a2, sbx a3, sbx a0]) (by rfl) (by rfl) 131 _ F1.out ZT.out (by rw [arr_size, arr_size]; rfl) (arr_one _) ?_
              refine hK.out _ _ trivial (fun hH => ?_)
              clear hK K
              simp only [Act.put]
              refine wpAnyH_done (by kernel_rfl) ?_ _
              have q1 := Hgt.out
              have q2 := Hg.out
              have q3 := hid (show w.heap.size ≤ gt by omega)
              have q4 := hid (show g ≠ gt by omega)
              have q5 := hid (show w.heap.size + 1 ≠ gt by omega)
              have q6 := hid (show w.heap.size ≠ gt by omega)
              clear q1 q2
              go_wp2_with fail
              go_meet
              case rel => exact ⟨rfl, by rw [TW.out]; exact F1.out.row, F2.out.rowFar _ q4.out, F3.out.rowFar _ q5.out, F4.out.rowFar _ q6.out, below_row F5.out q3.out _⟩
            refine AllReadyH.cons (by simp only [List.getElem?_toArray, List.getElem?_cons_succ, List.getElem?_cons_zero]; rfl) (fun K hK => ?_) AllReadyH.nil
            go_simp
            refine (CR.out _).mono ?_
            rintro e y2 ⟨rfl, hM⟩
            refine hK.out _ _ trivial (fun hH => ?_)
            clear hK K
            replace F1 := hid (F1.out.below hM)
            replace F2 := hid (F2.out.below hM)
            replace F3 := hid (F3.out.below hM)
            replace F4 := hid (F4.out.below hM)
            replace F5 := hid (F5.out.trans (hM.mono F5.out.size))
            clear hM
            refine wpAnyH_take (i := 5) (v := .int .i64 (cc : Int)) (by simp only [List.getElem?_toArray, List.getElem?_cons_succ, List.getElem?_cons_zero]; rfl) (by kernel_rfl) (by kernel_rfl) (by kernel_rfl) (by intro _ _ _ h; exact h) (Or.inl ⟨by rfl, fun w _ => by go_simp⟩) hH ?_
            simp only [Act.put, List.setIfInBounds_toArray, List.set_cons_zero, List.set_cons_succ]
            refine wpAnyH_take (i := 6) (v := .int .u8 (cc : Int)) (by simp only [List.getElem?_toArray, List.getElem?_cons_succ, List.getElem?_cons_zero]; rfl) (by kernel_rfl) (by kernel_rfl) (by kernel_rfl) (by intro _ _ _ h; exact h) (Or.inl ⟨by rfl, fun w _ => by go_simp⟩) hH ?_
            simp only [Act.put, List.setIfInBounds_toArray, List.set_cons_zero, List.set_cons_succ]
            refine wpAnyH_ready (rs := [0]) (by kernel_rfl) (by simp) ?_
            refine AllReadyH.cons (by simp only [List.getElem?_toArray, List.getElem?_cons_zero]; rfl) (fun K hK => ?_) AllReadyH.nil
            refine step_load_sub (by rfl) 131 _ (by rfl) gt 0 (by rfl) [a0, a1, a2, a3] (Ar.range4 F1.out a0 a1 a2 a3 (p := 0) (by simp) rfl rfl rfl rfl) _ Tryz.underlying131 rfl Z4.out ?_
            refine hK.out _ _ trivial (fun hH => ?_)
            clear hK K
            simp only [Act.put, List.setIfInBounds_toArray, List.set_cons_zero, List.set_cons_succ]
            refine wpAnyH_ready (rs := [7]) (by kernel_rfl) (by simp) ?_
            refine AllReadyH.cons (by simp only [List.getElem?_toArray, List.getElem?_cons_succ, List.getElem?_cons_zero]; rfl) (fun K hK => ?_) AllReadyH.nil
            go_simp
            refine (turnd a0 a1 a2 a3 cc gx _ x0 x1 x2 x3 xc (fun a ha => cell_kept F5.out (HX.out a ha))).mono ?_
            rintro e y9 ⟨rfl, hM⟩
            refine hK.out _ _ trivial (fun hH => ?_)
            clear hK K
            replace F1 := hid (F1.out.below hM)
            replace F2 := hid (F2.out.below hM)
            replace F3 := hid (F3.out.below hM)
            replace F4 := hid (F4.out.below hM)
            replace F5 := hid (F5.out.trans (hM.mono F5.out.size))
            clear hM
            refine wpAnyH_ready (rs := [8]) (by kernel_rfl) (by simp) ?_
            refine AllReadyH.cons (by simp only [List.getElem?_toArray, List.getElem?_cons_succ, List.getElem?_cons_zero]; rfl) (fun K hK => ?_) AllReadyH.nil
            refine step_store_row (by rfl) _ _ _ (by rfl) gt (arr [sbx a1 ^^^ cc, sbx a2, sbx a3, sbx a0]) (by rfl) (by rfl) 131 _ F1.out ZT.out (by rw [arr_size, arr_size]; rfl) (arr_one _) ?_
            refine hK.out _ _ trivial (fun hH => ?_)
            clear hK K
            simp only [Act.put]
            refine wpAnyH_done (by kernel_rfl) ?_ _
            have q1 := Hgt.out
            have q2 := Hg.out
            have q3 := hid (show w.heap.size ≤ gt by omega)
            have q4 := hid (show g ≠ gt by omega)
            have q5 := hid (show w.heap.size + 1 ≠ gt by omega)
            have q6 := hid (show w.heap.size ≠ gt by omega)
            clear q1 q2
            go_wp2_with fail
            go_meet
            case rel => exact ⟨rfl, by rw [TW.out]; exact F1.out.row, F2.out.rowFar _ q4.out, F3.out.rowFar _ q5.out, F4.out.rowFar _ q6.out, below_row F5.out q3.out _⟩
          · have t30 : ((m : Int) % 4 == 0) = false := by rw [beq_eq_false_iff_ne]; omega
            have TW := hid (TN.out hq)
            clear TY TN hq
            go_wp2_with fail
            go_meet
            case rel => exact ⟨rfl, by rw [TW.out]; exact T1.out, A1.out, R1.out, K1.out, B1.out⟩
        case rest =>
          obtain ⟨rfl, T2, A2, R2, K2, B2⟩ := hcut
          clear A1 B1 T1 R1 K1 TY TN x0 x1 x2 x3 Z4 RG HI
          have KT := hid (fun k => tw_lt F KL.out m k)
          have hB0 := B2.size
          go_wp2_with fail
          go_loopw [8, 39] (fun s8 s39 ws => ∃ k : Nat, ∃ u : Value, k ≤ 4 ∧ s39 = .int .i64 k ∧ s8 = u ∧ Ar ws gt 131 (twl F m) ∧ Ar ws g 132 (rowTo 176 F (4 * n + k)) ∧ Ar ws (w.heap.size + 1) 132 (zs 176) ∧ Ar ws w.heap.size 61 key ∧ Below w.heap.size w ws) (fun _ s39 _ => 4 - (intOf s39).toNat)
          case atStart => exact ⟨0, _, by omega, rfl, rfl, T2, A2, R2, K2, B2⟩
          case round =>
            obtain ⟨k, v8', hk4, rfl, rfl, T3, A3, R3, K3, B3⟩ := hrel
            clear T2 A2 R2 K2 B2
            by_cases hlk : k < 4
            · obtain ⟨t, ht⟩ : ∃ t, t = 4 * n + k := ⟨_, rfl⟩
              obtain ⟨q, hq⟩ : ∃ q, q = 4 * m + k := ⟨_, rfl⟩
              have hm' := Hm.out
              have hgw := Hg.out
              rw [← ht] at A3
              have c1 := A3.cell q (by rw [rowTo_len]; omega)
              rw [rowTo_gt _ _ _ _ (by omega) (by omega)] at c1
              have c2 := T3.cell k (by rw [twl_len]; exact hlk)
              rw [twl_gt _ _ _ hlk] at c2
              have c3 : ∃ u, wr.cell? ⟨g, t, none⟩ = some u := ⟨_, A3.cell t (by rw [rowTo_len]; omega)⟩
              obtain ⟨u3, c3⟩ := c3
              have f3 := A3.open t
              have S := A3.stored t (F t)
              rw [rowTo_set 176 F t (by omega)] at S
              have ST := T3.far (g' := g) (k := t) (.int .u8 (F t : Nat)) (by have := Hgt.out; omega)
              have SR := R3.far (g' := g) (k := t) (.int .u8 (F t : Nat)) (by omega)
              have SK := K3.far (g' := g) (k := t) (.int .u8 (F t : Nat)) (by omega)
              have SB := B3.setCell (p := ⟨g, t, none⟩) (by simp; omega) (.int .u8 (F t : Nat))
              have hFm : F t = F q ^^^ tw F m k := by
                have := KS.out m k (by omega) hlk
                rw [show 16 + 4 * m + k = t by omega, show 4 * m + k = q by omega] at this
                exact this
              have y1 := KL.out q
              have y2 := KT.out k
              have E : bits .xor .u8 (F q : Nat) (tw F m k : Nat) = ((F t : Nat) : Int) := by rw [xor8 _ _ y1 y2, hFm]
              have e2 : (n : Int) - 4 = (m : Int) := by omega
              have k0 : (0 : Int) ≤ (k : Int) := by omega
              have k1 : (k : Int) < 4 := by omega
              have I1 := idx_word g 0 m (by omega)
              have I2 := idx_word g 0 n (by omega)
              rw [Nat.zero_add] at I1 I2
              have J1 := idx_byte g (4 * m) k hlk
              have J2 := idx_byte g (4 * n) k hlk
              rw [show 4 * m + k = q by omega] at J1
              rw [show 4 * n + k = t by omega] at J2
              have J3 := idx_byte gt 0 k hlk
              rw [Nat.zero_add] at J3
              have v2 : IntKind.i64.wrap (m : Int) = (m : Int) := by rw [IntKind.wrap_i64]; omega
              have Ht := hid ht
              replace S := hid S
              replace ST := hid ST
              replace SR := hid SR
              replace SK := hid SK
              replace SB := hid SB
              clear A3 T3 R3 K3 B3 ht hq hm' hFm hgw
              generalize F q = z1 at *
              generalize tw F m k = z2 at *
              generalize F t = z3 at *
              go_wp2_with fail
              refine wp_region_still_tail 14 (by kernel_rfl) (by kernel_rfl) ?_
              change wpStill _ _ (World.drew _) (fun a' => wpList _ _ _ _ a' (World.drew _)) _ _
              simp only [List.take_succ_cons, List.take_zero, List.drop_succ_cons, List.drop_zero]
              repeat still_step
              refine wpStill_nil ?_
              go_wp2
              exact ⟨⟨k + 1, _, hlk, num_succ k, rfl, ST.out.drew, by rw [show 4 * n + (k + 1) = t + 1 by have := Ht.out; omega]; exact S.out.drew, SR.out.drew, SK.out.drew, SB.out.drew⟩, meas 4 k hlk⟩
            · have hk44 : k = 4 := by omega
              subst hk44
              go_wp2
              exact ⟨⟨n + 1, _, _, _, hlt, num_succ n, rfl, rfl, rfl, by rw [show 4 * (n + 1) = 4 * n + 4 by omega]; exact A3, R3, K3, B3⟩, meas 44 n hlt⟩
    · have hn44 : n = 44 := by omega
      subst hn44
      rw [show 4 * 44 = 176 from rfl, ← HF.out] at A
      have Z := hid (words_size (rowTo 176 (kf key) 176) (rowTo_len _ _ _))
      have SR := hid (R.row (l' := rowTo 176 (kf key) 176))
      have SB := hid (below_row B (g := w.heap.size + 1) (by omega) (arr (rowTo 176 (kf key) 176)))
      have ho := hid (show (arr (zs 176)).size = (arr (rowTo 176 (kf key) 176)).size by rw [arr_size, arr_size, zs_len, rowTo_len])
      replace A := hid A
      replace R := hid R
      clear K B hlt
      go_wp2_with (first | refine wpList_load_row rfl 132 _ rfl g rfl 132 (arr (rowTo 176 (kf key) 176)) _ _ A.out Tryz.underlying132 rfl Z.out ?_ | refine wpList_store_row rfl 132 _ _ rfl (w.heap.size + 1) (arr (rowTo 176 (kf key) 176)) rfl rfl 132 _ R.out Z.out ho.out (arr_one _) ?_)
      exact bodyPost_ret (v := .agg (arr (rowTo 176 (kf key) 176))) (results_cell_row rfl _ _ (w.heap.size + 1) 132 _ _ _ rfl SR.out Tryz.underlying132 rfl Z.out) rfl ⟨rfl, SB.out⟩
end Go.Proofs.YtckgjghpfjinfakGreat.W

namespace Go.Proofs.YtckgjghpfjinfakGreat.W
open Go.ChangeShapes Go.WideShapes Go.ChangeAt Go.RowKit
open Go.Proofs.YtckgjghpfjinfakGreat.M

theorem rot_0 (x : Nat) (hx : x < 256) : bits .or .u8 (x : Int) ((x : Int) / 256) = ((rot x 0 : Nat) : Int) := by
  have h := rot_at x 1 256 hx
  have e : (x : Int) * ((1 : Nat) : Int) % 256 = x := by omega
  rw [e] at h
  exact h

theorem rotl (x : Nat) (k : Int) (hx : x < 256) (hk : k = 0 ∨ k = -4 ∨ k = -5 ∨ k = -6 ∨ k = -7) (w : World) :
    Calls Tryz.prog 101 #[.int .u8 (x : Int), .int .i64 k] w fun e w' => e = .returned (.int .u8 (rot x (-k).toNat : Nat)) ∧ w' = w := by
  have f0 : bits .and .u64 0 7 = 0 := by decide +kernel
  have f4 : bits .and .u64 (IntKind.u64.wrap (-4)) 7 = 4 := by decide +kernel
  have f5 : bits .and .u64 (IntKind.u64.wrap (-5)) 7 = 3 := by decide +kernel
  have f6 : bits .and .u64 (IntKind.u64.wrap (-6)) 7 = 2 := by decide +kernel
  have f7 : bits .and .u64 (IntKind.u64.wrap (-7)) 7 = 1 := by decide +kernel
  rcases hk with rfl | rfl | rfl | rfl | rfl
  all_goals
    go_enter Tryz.func101, Tryz.ntmps101
    go_wp2
    go_ret
    refine ⟨ret_int ?_, rfl⟩
  · exact rot_0 x hx
  · exact rot_4 x hx
  · exact rot_5 x hx
  · exact rot_6 x hx
  · exact rot_7 x hx

set_option maxRecDepth 100000 in
theorem boi (x : Nat) (hl : x < 256) (w : World) :
    Calls Tryz.prog 96 #[.int .u8 (x : Int)] w fun e w' => e = .returned (.int .u8 (bi x : Nat)) ∧ w' = w := by
  have X : Hid (bi x = ((((99 ^^^ rot x 0) ^^^ rot x 4) ^^^ rot x 5) ^^^ rot x 6) ^^^ rot x 7) := rfl
  have i0 : ∀ w : World, (Instr.index 149 (.agg #[.int .i64 0, .int .i64 4, .int .i64 5, .int .i64 6, .int .i64 7]) (.int .i64 0)).run Tryz.prog w = .ok (.int .i64 0) w := fun _ => by kernel_rfl
  have i1 : ∀ w : World, (Instr.index 149 (.agg #[.int .i64 0, .int .i64 4, .int .i64 5, .int .i64 6, .int .i64 7]) (.int .i64 1)).run Tryz.prog w = .ok (.int .i64 4) w := fun _ => by kernel_rfl
  have i2 : ∀ w : World, (Instr.index 149 (.agg #[.int .i64 0, .int .i64 4, .int .i64 5, .int .i64 6, .int .i64 7]) (.int .i64 2)).run Tryz.prog w = .ok (.int .i64 5) w := fun _ => by kernel_rfl
  have i3 : ∀ w : World, (Instr.index 149 (.agg #[.int .i64 0, .int .i64 4, .int .i64 5, .int .i64 6, .int .i64 7]) (.int .i64 3)).run Tryz.prog w = .ok (.int .i64 6) w := fun _ => by kernel_rfl
  have i4 : ∀ w : World, (Instr.index 149 (.agg #[.int .i64 0, .int .i64 4, .int .i64 5, .int .i64 6, .int .i64 7]) (.int .i64 4)).run Tryz.prog w = .ok (.int .i64 7) w := fun _ => by kernel_rfl
  go_enter Tryz.func96, Tryz.ntmps96
  go_wp2
  refine wp_loop_rounds 6 ?_
  iterate 6
    rw [rounds_succ]
    go_wp2_with (go_at_call 101; refine (rotl x _ hl ?_ _).mono ?_; (omega); rintro e w' ⟨rfl, rfl⟩)
  go_ret
  exact ⟨ret_int (by rw [X.out]; exact sbx_sum x hl), rfl⟩

end Go.Proofs.YtckgjghpfjinfakGreat.W

namespace Go.Proofs.YtckgjghpfjinfakGreat.W
open Go.ChangeShapes Go.WideShapes Go.ChangeAt Go.RowKit
open Go.Proofs.YtckgjghpfjinfakGreat.M

theorem zero_box : ∀ w : World, (zeroValue 126).run Tryz.prog w = .ok (.agg (arr (zs 256))) w :=
  (zero_of_info (P := Tryz.prog) (t := 126) (v := .agg (arr (zs 256))) (n := 256) (by kernel_rfl)).1
theorem zero_pws : ∀ w : World, (zeroValue 144).run Tryz.prog w = .ok (.agg (arr (zs 255))) w :=
  (zero_of_info (P := Tryz.prog) (t := 144) (v := .agg (arr (zs 255))) (n := 255) (by kernel_rfl)).1

theorem boi0 (w : World) :
    Calls Tryz.prog 96 #[.int .u8 0] w fun e w' => e = .returned (.int .u8 (bi 0 : Nat)) ∧ w' = w := boi 0 (by omega) w

set_option maxRecDepth 100000 in
theorem mkbox (w : World) :
    Calls Tryz.prog 84 #[] w fun e w' => e = .returned (.agg (arr boxL)) ∧ Below w.heap.size w w' := by
  have hz1 := zero_box
  have hz2 := zero_pws
  go_enter Tryz.func84, Tryz.ntmps84
  go_wp2_with fail
  go_loopw [2, 3, 7] (fun p i j wr => ∃ k : Nat, ∃ u : Value, k ≤ 255 ∧ j = .int .i64 k ∧ p = .int .u8 (pw k : Nat) ∧ i = u ∧ Ar wr w.heap.size 126 (zs 256) ∧ Ar wr (w.heap.size + 1) 144 (pws k) ∧ Below w.heap.size w wr) (fun _ _ j _ => 255 - (intOf j).toNat)
  case atStart => exact ⟨0, _, by omega, rfl, rfl, rfl, (Ar.new w _ _).alloc _, by rw [pws_zero]; exact heap_alloc2_new w _ _, below_alloc2 w _ _⟩
  case round =>
    obtain ⟨k, u, hk, rfl, rfl, rfl, A0, A1, hB⟩ := hrel
    by_cases hlt : k < 255
    · have hp := pw_lt k
      have hl := pws_len k hk
      have c1 : ∃ u, wr.cell? ⟨w.heap.size + 1, k, none⟩ = some u := ⟨_, A1.cell k (by omega)⟩
      obtain ⟨u1, c1⟩ := c1
      have f1 := A1.open k
      have S1 := A1.stored k (pw k)
      rw [pws_set k hlt] at S1
      have S0 := A0.far (g' := w.heap.size + 1) (k := k) (.int .u8 (pw k : Nat)) (by omega)
      have SB := hB.setCell (p := ⟨w.heap.size + 1, k, none⟩) (by simp) (.int .u8 (pw k : Nat))
      have X : Hid (pw (k + 1) = pw k ^^^ xt (pw k)) := rfl
      replace S1 := hid S1
      replace S0 := hid S0
      replace SB := hid SB
      clear A0 A1 hB
      generalize pw k = x at *
      go_wp2_with (go_at_call 95; refine (tp1 x hp _).mono ?_; rintro e w' ⟨rfl, rfl⟩)
      exact ⟨⟨k + 1, _, by omega, by go_num, int_u8 (by rw [X.out]; exact xor8 _ _ hp (xt_lt x)), rfl, S0.out, S1.out, SB.out⟩, by simp [intOf]; omega⟩
    · have hk8 : k = 255 := by omega
      subst hk8
      obtain ⟨w1, rfl⟩ : ∃ w1, w1 = wr := ⟨_, rfl⟩
      clear hk hlt
      have hz := A1.lt
      have N2 := Ar.new w1 126 (zs 256)
      have N1 := A1.alloc (.cells (arr (zs 256)) 126)
      have N0 := A0.alloc (.cells (arr (zs 256)) 126)
      have NB := hB.alloc (by omega) (.cells (arr (zs 256)) 126)
      clear A0 A1 hB
      go_wp2_with fail
      refine (boi0 _).mono ?_
      rintro e w' ⟨rfl, rfl⟩
      generalize w1.alloc (.cells (arr (zs 256)) 126) = W at *
      generalize w1.heap.size = g at *
      have c2 := N2.cell 0 (by rw [zs_len]; omega)
      have f2 := N2.open 0
      have S2 := N2.stored 0 (bi 0)
      have S1 := N1.far (g' := g) (k := 0) (.int .u8 (bi 0 : Nat)) (by omega)
      have S0 := N0.far (g' := g) (k := 0) (.int .u8 (bi 0 : Nat)) (by omega)
      have SB := NB.setCell (p := ⟨g, 0, none⟩) (by simp; omega) (.int .u8 (bi 0 : Nat))
      rw [show (zs 256).set 0 (bi 0) = bx 0 from rfl] at S2
      clear N0 N1 N2 NB
      replace S2 := hid S2
      replace S1 := hid S1
      replace S0 := hid S0
      replace SB := hid SB
      go_wp2_with (refine wpList_load_row rfl 144 _ rfl (w.heap.size + 1) rfl 144 (arr (pws 255)) _ _ S1.out Tryz.underlying144 rfl (by rw [arr_size, pws_len 255 (by omega)]; kernel_rfl) ?_)
      go_loopw [5, 6, 21] (fun i p j wr => ∃ k : Nat, ∃ u v : Value, k ≤ 255 ∧ j = .int .i64 k ∧ i = u ∧ p = v ∧ Ar wr w.heap.size 126 (zs 256) ∧ Ar wr (w.heap.size + 1) 144 (pws 255) ∧ Ar wr g 126 (bx k) ∧ Below w.heap.size w wr) (fun _ _ j _ => 255 - (intOf j).toNat)
      case atStart => exact ⟨0, _, _, by omega, rfl, rfl, rfl, S0.out, S1.out, S2.out, SB.out⟩
      case round =>
        obtain ⟨k, u, v, hk, rfl, rfl, rfl, A0, A1, A2, hB⟩ := hrel
        clear S0 S1 S2 SB c2 f2 W
        by_cases hlt : k < 255
        · obtain ⟨j, hj⟩ : ∃ j, j = (255 - k) % 255 := ⟨_, rfl⟩
          have hj2 : j < 255 := by omega
          have ej : (255 - (k : Int)) % 255 = (j : Int) := by omega
          have X : Hid (bx (k + 1) = (bx k).set (pw k) (bi (pw j))) := by unfold Hid; rw [bx, hj]
          clear hj
          have hix := idx_arr 144 255 Tryz.underlying144 (pws 255) (pws_len 255 (by omega)) k hlt
          rw [gt_some _ _ _ (pws_at k hlt)] at hix
          have c1 := A1.cell j (by rw [pws_len 255 (by omega)]; exact hj2)
          rw [gt_some _ _ _ (pws_at j hj2)] at c1
          have hp := pw_lt k
          have hq := pw_lt j
          have c2 : ∃ u, wr.cell? ⟨g, pw k, none⟩ = some u := ⟨_, A2.cell (pw k) (by rw [bx_len]; exact hp)⟩
          obtain ⟨u2, c2⟩ := c2
          have f2 := A2.open (pw k)
          have S2 := hid (A2.stored (pw k) (bi (pw j)))
          have S1 := hid (A1.far (g' := g) (k := pw k) (.int .u8 (bi (pw j) : Nat)) (by omega))
          have S0 := hid (A0.far (g' := g) (k := pw k) (.int .u8 (bi (pw j) : Nat)) (by omega))
          have SB := hid (hB.setCell (p := ⟨g, pw k, none⟩) (by simp; omega) (.int .u8 (bi (pw j) : Nat)))
          clear A0 A1 A2 hB
          generalize pw k = x at *
          generalize pw j = y at *
          go_wp2_with fail
          refine (boi y hq _).mono ?_
          rintro e w' ⟨rfl, rfl⟩
          go_wp2_with fail
          exact ⟨⟨k + 1, _, _, by omega, by go_num, rfl, rfl, S0.out, S1.out, by rw [X.out]; exact S2.out, SB.out⟩, by simp [intOf]; omega⟩
        · have hk8 : k = 255 := by omega
          subst hk8
          rw [bx_end] at A2
          have hsz : (Tryz.prog.info? 126).map (·.size) = some (arr boxL).size := by rw [arr_size, boxL_len]; kernel_rfl
          have SR := A0.row (l' := boxL)
          have SB := below_row hB (Nat.le_refl _) (arr boxL)
          have ho : (arr (zs 256)).size = (arr boxL).size := by rw [arr_size, arr_size, zs_len, boxL_len]
          have A2 := hid A2
          have A0 := hid A0
          have SR := hid SR
          have SB := hid SB
          have ho := hid ho
          have hsz := hid hsz
          clear A1 hB
          go_wp2_with (first | refine wpList_load_row rfl 126 _ rfl g rfl 126 (arr boxL) _ _ A2.out Tryz.underlying126 rfl hsz.out ?_ | refine wpList_store_row rfl 126 _ _ rfl w.heap.size (arr boxL) rfl rfl 126 _ A0.out hsz.out ho.out (arr_one _) ?_)
          exact bodyPost_ret (v := .agg (arr boxL)) (results_cell_row rfl _ _ w.heap.size 126 _ _ _ rfl SR.out Tryz.underlying126 rfl hsz.out) rfl ⟨rfl, SB.out⟩
end Go.Proofs.YtckgjghpfjinfakGreat.W

namespace Go.Proofs.YtckgjghpfjinfakGreat.W
open Go.ChangeShapes Go.WideShapes Go.ChangeAt Go.RowKit
open Go.Proofs.YtckgjghpfjinfakGreat.M

/-- The box, and the words behind it. -/
def cph (F : Nat → Nat) (m : Nat) : List Nat := boxL ++ rowTo 176 F m
theorem cph_len (F : Nat → Nat) (m : Nat) : (cph F m).length = 432 := by rw [cph, List.length_append, boxL_len, rowTo_len]
theorem cph_box (F : Nat → Nat) (m a : Nat) (ha : a < 256) : gt (cph F m) a = sbx a := by
  rw [cph, gt_append _ _ _ (by rw [boxL_len]; exact ha), gt_some _ _ _ (boxL_at a ha)]
theorem cph_word (F : Nat → Nat) (m j : Nat) : gt (cph F m) (256 + j) = gt (rowTo 176 F m) j := by
  have h := gt_append2 boxL (rowTo 176 F m) j
  rw [boxL_len] at h
  exact h
set_option maxRecDepth 100000 in
theorem cip_built : Tryz.prog.built 130 [(0, .agg (arr boxL))] = some (arr (boxL ++ zs 176)) := by kernel_rfl
theorem cip_eq {x : List (Nat × Value)} (h : x = [(0, .agg (arr boxL))]) : Tryz.prog.built 130 x = some (arr (boxL ++ zs 176)) := by rw [h]; exact cip_built
theorem build_eq {P : Program} {ops : Array Oper} {rest : List Oper} {o : Oper} {a : Act} {w : World} {Q : Exit → Act → World → Prop} (hg : o.guard = none) (t : TypeId) (parts : Array (Nat × Operand)) (ho : o.op = .build t parts) (cells : Array Value)
    (hb : P.built t (parts.map fun (i, x) => (i, a.eval x)).toList = some cells) (h : wpList P ops Q rest (a.put o.dst (.agg cells)) w) : wpList P ops Q (o :: rest) a w := by
  refine wpList_build hg t parts ho (by rw [hb]; rfl) ?_
  rw [hb]
  exact h
theorem cip_start (F : Nat → Nat) : boxL ++ zs 176 = cph F 0 := by rw [cph, rowTo_zero]
/-- Word i of all words. -/
theorem idx_all (l : List Nat) (i : Nat) (hi : i < 44) (w : World) : (Instr.index 132 (.agg (arr l)) (.int .i64 (i : Int))).run Tryz.prog w = .ok (.agg (arr (sub l (4 * i) 4))) w := by
  have hs : ∀ w : World, (sizeOf 131).run Tryz.prog w = .ok 4 w := fun _ => by kernel_rfl
  have hag : ∀ w : World, (isAgg 131).run Tryz.prog w = .ok true w := fun _ => by kernel_rfl
  have e : (arr l).extract (i * 4) (i * 4 + 4) = arr (sub l (4 * i) 4) := by
    apply Array.ext'
    rw [Array.toList_extract]
    unfold arr sub
    simp [List.extract, Nat.mul_comm, List.map_take, List.map_drop]
  simp [Instr.index, run_underlying Tryz.underlying132, asIntOf, part, hs, hag, e, go_sem]
  intro h
  omega
theorem cph_copy (F : Nat → Nat) (n : Nat) (hn : n < 44) : ((arr (cph F (4 * n))).toList.take (256 + 4 * n) ++ (sub (rowTo 176 F 176) (4 * n) 4).map bv ++ (arr (cph F (4 * n))).toList.drop (256 + 4 * n + 4)).toArray = arr (cph F (4 * n + 4)) := by
  unfold arr
  rw [List.toList_toArray, ← List.map_take, ← List.map_drop, ← List.map_append, ← List.map_append]
  congr 1
  congr 1
  have hl := cph_len F (4 * n)
  have hs := sub_len (rowTo 176 F 176) (4 * n) 4 (by rw [rowTo_len]; omega)
  apply List.ext_getElem?
  intro i
  have key : ∀ m j, (cph F m)[j]? = if j < 256 then some (sbx j) else if j < 432 then some (if j - 256 < m then F (j - 256) else 0) else none := fun m j => by
    unfold cph
    by_cases h1 : j < 256
    · rw [if_pos h1, List.getElem?_append_left (by rw [boxL_len]; exact h1), boxL_at j h1]
    · rw [if_neg h1, List.getElem?_append_right (by rw [boxL_len]; omega), boxL_len]
      by_cases h2 : j < 432
      · rw [if_pos h2, rowTo_get _ _ _ _ (by omega)]
      · rw [if_neg h2, List.getElem?_eq_none (by rw [rowTo_len]; omega)]
  have e1 : ((cph F (4 * n)).take (256 + 4 * n)).length = 256 + 4 * n := by rw [List.length_take, hl]; omega
  rw [key (4 * n + 4) i, List.append_assoc]
  by_cases c1 : i < 256 + 4 * n
  · rw [List.getElem?_append_left (by rw [e1]; exact c1), List.getElem?_take, if_pos c1, key]
    by_cases h1 : i < 256
    · rw [if_pos h1, if_pos h1]
    · rw [if_neg h1, if_neg h1, if_pos (by omega), if_pos (by omega), if_pos (by omega), if_pos (by omega)]
  · rw [List.getElem?_append_right (by rw [e1]; omega), e1, if_neg (by omega)]
    by_cases c2 : i < 256 + 4 * n + 4
    · rw [List.getElem?_append_left (by rw [hs]; omega), if_pos (by omega), if_pos (by omega)]
      unfold sub
      rw [List.getElem?_take, if_pos (by omega), List.getElem?_drop, rowTo_get _ _ _ _ (by omega), if_pos (by omega), show 4 * n + (i - (256 + 4 * n)) = i - 256 by omega]
    · rw [List.getElem?_append_right (by rw [hs]; omega), hs, List.getElem?_drop, key, show 256 + 4 * n + 4 + (i - (256 + 4 * n) - 4) = i by omega, if_neg (by omega)]
      by_cases h2 : i < 432
      · rw [if_pos h2, if_pos h2, if_neg (by omega), if_neg (by omega)]
      · rw [if_neg h2, if_neg h2]
end Go.Proofs.YtckgjghpfjinfakGreat.W

namespace Go.Proofs.YtckgjghpfjinfakGreat.W
open Go.ChangeShapes Go.WideShapes Go.ChangeAt Go.RowKit
open Go.Proofs.YtckgjghpfjinfakGreat.M

theorem key_size (l : List Nat) (hl : l.length = 16) : (Tryz.prog.info? 61).map (·.size) = some (arr l).size := by rw [arr_size, hl]; kernel_rfl
/-- Where round key d lies. -/
theorem idx_rk (g o d : Nat) (hd : d < 11) (w : World) : (Instr.indexAt 128 (.pointer (some ⟨g, o, none⟩)) (.int .i64 (d : Int))).run Tryz.prog w = .ok (.pointer (some ⟨g, o + 16 * d, none⟩)) w := by
  have hs : ∀ w : World, (sizeOf (Tryz.prog.elem 128)).run Tryz.prog w = .ok 16 w := fun _ => by kernel_rfl
  have hl : Tryz.prog.arrayLen 128 = 11 := by kernel_rfl
  rw [run_indexAt_array (P := Tryz.prog) w 128 _ .i64 (d : Int) (by kernel_rfl), hl, if_pos (by omega), hs]
  simp [Result.andThen, Addr.add_lit, Nat.mul_comm]
theorem cut_rk (g o e : Nat) (he : e < 16) (w : World) : (Instr.sliceAt 107 (.pointer (some ⟨g, o, none⟩)) (some (.int .i64 (e : Int))) none none).run Tryz.prog w = .ok (.slice (some ⟨g, o + e, none⟩) (16 - e) (16 - e)) w := by
  have hs : ∀ w : World, (sizeOf (Tryz.prog.elem 107)).run Tryz.prog w = .ok 1 w := fun _ => by kernel_rfl
  have hl : Tryz.prog.arrayLen 107 = 16 := by kernel_rfl
  rw [run_sliceAt_array_l (P := Tryz.prog) w 107 _ (by kernel_rfl) .i64 (e : Int) (by omega) (by rw [hl]; omega), hs]
  have e3 : ¬ (16 = e) := by omega
  simp [Result.andThen, slicedAt, e3, Addr.add_lit, hl]
theorem cut_word (g : Nat) (w : World) : (Instr.sliceAt 131 (.pointer (some ⟨g, 0, none⟩)) none none none).run Tryz.prog w = .ok (.slice (some ⟨g, 0, none⟩) 4 4) w := by
  have hs : ∀ w : World, (sizeOf (Tryz.prog.elem 131)).run Tryz.prog w = .ok 1 w := fun _ => by kernel_rfl
  have hl : Tryz.prog.arrayLen 131 = 4 := by kernel_rfl
  rw [run_sliceAt_array_all (P := Tryz.prog) w 131 _ (by kernel_rfl), hs]
  simp [Result.andThen, slicedAt, Addr.add_lit, hl]

set_option maxHeartbeats 2000000 in
set_option maxRecDepth 100000 in
theorem cipof (key : List Nat) (w : World) (hk : key.length = 16) (y : Byt key) :
    Calls Tryz.prog 73 #[.agg (arr key)] w fun e w' => ∃ g, e = .returned (.pointer (some ⟨g, 0, none⟩)) ∧ Ar w' g 130 (cph (kf key) 176) ∧ w.heap.size ≤ g ∧ Below w.heap.size w w' := by
  have HK := hid hk
  have K0 := Ar.new w 61 key
  have B0 := below_alloc1 w (.cells (arr key) 61)
  clear hk
  go_enter Tryz.func73, Tryz.ntmps73
  go_wp2_with fail
  refine (mkbox _).mono ?_
  rintro e wm ⟨rfl, hM⟩
  have K1 := K0.below hM
  have B1 := B0.trans (hM.mono (by simp))
  clear K0 B0 hM
  go_wp2_with (refine build_eq rfl 130 _ rfl (arr (boxL ++ zs 176)) (cip_eq (by simp [Act.eval])) ?_)
  have C1 := Ar.new wm 130 (boxL ++ zs 176)
  have K2 := K1.alloc (.cells (arr (boxL ++ zs 176)) 130)
  have B2 := B1.alloc B1.size (.cells (arr (boxL ++ zs 176)) 130)
  have hgz := B1.size
  clear K1 B1
  generalize wm.alloc (.cells (arr (boxL ++ zs 176)) 130) = W at *
  rw [cip_start (kf key)] at C1
  have KR := hid (K2.range 0 16)
  have KE := hid (show sub key 0 16 = key by unfold sub; rw [List.drop_zero, List.take_of_length_le (by rw [HK.out]; omega)])
  have KS := hid (key_size key HK.out)
  have hX := hid (fun a (ha : a < 256) => show W.cell? ⟨wm.heap.size, a, none⟩ = some (.int .u8 (sbx a : Nat)) by rw [C1.cell a (by rw [cph_len]; omega), cph_box _ _ _ ha])
  generalize wm.heap.size = g at *
  refine wp_region_held_drew (S := fun w' => Below W.heap.size W w') (by kernel_rfl) ((Below.refl _ _).drew) (fun hH => ?_)
  refine wpAnyH_take (i := 0) (v := .agg (arr key)) (by simp only [List.getElem?_toArray, List.getElem?_cons_zero]; rfl) (by kernel_rfl) (by kernel_rfl) (by kernel_rfl) (by intro _ _ _ h; exact h) (yieldsIf_load_mid (by rfl) _ _ rfl w.heap.size 0 rfl (key.map bv) _ (fun w hS => by have q := KR.out; rw [KE.out] at q; exact rangeAt.below q hS) Tryz.underlying61 rfl (by rw [List.length_map, ← arr_size]; exact KS.out)) hH ?_
  simp only [Act.put, List.setIfInBounds_toArray, List.set_cons_zero, List.set_cons_succ]
  refine wpAnyH_take (i := 1) (v := .pointer (some ⟨g, 0, none⟩)) (by simp only [List.getElem?_toArray, List.getElem?_cons_succ, List.getElem?_cons_zero]; rfl) (by kernel_rfl) (by kernel_rfl) (by kernel_rfl) (by intro _ _ _ h; exact h) (Or.inl ⟨by rfl, fun w _ => by go_simp⟩) hH ?_
  simp only [Act.put, List.setIfInBounds_toArray, List.set_cons_zero, List.set_cons_succ]
  refine wpAnyH_take (i := 2) (v := .pointer (some ⟨g, 0, none⟩)) (by simp only [List.getElem?_toArray, List.getElem?_cons_succ, List.getElem?_cons_zero]; rfl) (by kernel_rfl) (by kernel_rfl) (by kernel_rfl) (by intro _ _ _ h; exact h) (Or.inl ⟨by rfl, fun w _ => by go_simp⟩) hH ?_
  simp only [Act.put, List.setIfInBounds_toArray, List.set_cons_zero, List.set_cons_succ]
  refine wpAnyH_take (i := 3) (v := .pointer (some ⟨g, 0, none⟩)) (by simp only [List.getElem?_toArray, List.getElem?_cons_succ, List.getElem?_cons_zero]; rfl) (by kernel_rfl) (by kernel_rfl) (by kernel_rfl) (by intro _ _ _ h; exact h) (Or.inl ⟨by rfl, fun w _ => by go_simp⟩) hH ?_
  simp only [Act.put, List.setIfInBounds_toArray, List.set_cons_zero, List.set_cons_succ]
  refine wpAnyH_take (i := 5) (v := .int .i64 0) (by simp only [List.getElem?_toArray, List.getElem?_cons_succ, List.getElem?_cons_zero]; rfl) (by kernel_rfl) (by kernel_rfl) (by kernel_rfl) (by intro _ _ _ h; exact h) (Or.inl ⟨by rfl, fun w _ => by go_simp⟩) hH ?_
  simp only [Act.put, List.setIfInBounds_toArray, List.set_cons_zero, List.set_cons_succ]
  generalize W.drew = x1 at hH ⊢
  refine wpAnyH_ready (rs := [4]) (by kernel_rfl) (by simp) ?_
  refine AllReadyH.cons (by simp only [List.getElem?_toArray, List.getElem?_cons_succ, List.getElem?_cons_zero]; rfl) (fun K hK => ?_) AllReadyH.nil
  go_simp
  refine (expk key g _ HK.out y (fun a ha => cell_kept hH (hX.out a ha))).mono ?_
  rintro e x2 ⟨rfl, hM⟩
  have hH2 := hH.trans (hM.mono hH.size)
  refine hK.out _ _ hH2 (fun _ => ?_)
  clear hK K
  have C2 := C1.below hH2
  have B3 := B2.trans (hH2.mono B2.size)
  clear C1 B2 K2 KR KE KS hX hH hM hH2
  generalize hF : kf key = F at *
  have HF := hid hF
  clear hF
  refine wpAnyH_done (by kernel_rfl) ?_ _
  go_wp2_with fail
  go_loopw [4, 5, 14] (fun s4 s5 s14 ws => ∃ n : Nat, ∃ u4 u5 : Value, n ≤ 44 ∧ s14 = .int .i64 n ∧ s4 = u4 ∧ s5 = u5 ∧ Ar ws g 130 (cph F (4 * n)) ∧ Below w.heap.size w ws) (fun _ _ s14 _ => 44 - (intOf s14).toNat)
  case atStart => exact ⟨0, _, _, by omega, rfl, rfl, rfl, C2, B3⟩
  case round =>
    obtain ⟨n, v4, v5, hn, rfl, rfl, rfl, C, B⟩ := hrel
    clear C2 B3
    by_cases hlt : n < 44
    · have n0 : (0 : Int) ≤ (n : Int) := by omega
      have n1 : (n : Int) < 44 := by omega
      obtain ⟨d, hd⟩ : ∃ d, d = n / 4 := ⟨_, rfl⟩
      obtain ⟨r, hr⟩ : ∃ r, r = n % 4 := ⟨_, rfl⟩
      obtain ⟨e, he⟩ : ∃ e, e = 4 * r := ⟨_, rfl⟩
      have IX := idx_all (rowTo 176 F 176) n hlt
      have sl := sub_len (rowTo 176 F 176) (4 * n) 4 (by rw [rowTo_len]; omega)
      have Z4 := hid (word_size (sub (rowTo 176 F 176) (4 * n) 4) sl)
      have T1 := Ar.new wr 131 (sub (rowTo 176 F 176) (4 * n) 4)
      have C1 := C.alloc (.cells (arr (sub (rowTo 176 F 176) (4 * n) 4)) 131)
      have B1 := B.alloc B.size (.cells (arr (sub (rowTo 176 F 176) (4 * n) 4)) 131)
      have hgw := C.lt
      have I1 := idx_rk g 256 d (by omega)
      have I2 := cut_rk g (256 + 16 * d) e (by omega)
      have I3 := cut_word wr.heap.size
      rw [show 256 + 16 * d + e = 256 + 4 * n by omega] at I2
      have e1 : (n : Int) / 4 = (d : Int) := by omega
      have e2 : (n : Int).tdiv 4 = (d : Int) := by rw [Int.tdiv_eq_ediv_of_nonneg (by omega)]; omega
      have e3 : (n : Int) % 4 = (r : Int) := by omega
      have e4 : (n : Int).tmod 4 = (r : Int) := by rw [Int.tmod_eq_emod_of_nonneg (by omega)]; omega
      have e5 : 4 * (r : Int) = (e : Int) := by omega
      have v1 : IntKind.i64.wrap (d : Int) = (d : Int) := by rw [IntKind.wrap_i64]; omega
      have v2 : IntKind.i64.wrap (r : Int) = (r : Int) := by rw [IntKind.wrap_i64]; omega
      have v3 : IntKind.i64.wrap (e : Int) = (e : Int) := by rw [IntKind.wrap_i64]; omega
      have SL := hid sl
      have CC := hid (cph_copy F n hlt)
      have he2 : e ≤ 12 := by omega
      clear C B sl hd hr he
      go_wp2_with (refine wpList_store_row rfl 131 _ _ rfl wr.heap.size (arr (sub (rowTo 176 F 176) (4 * n) 4)) rfl rfl 131 _ (heap_alloc_new wr _) Z4.out (by rw [arr_size, SL.out]; rfl) (arr_one _) ?_)
      rw [World.setRow_alloc_new]
      generalize wr.alloc (.cells (arr (sub (rowTo 176 F 176) (4 * n) 4)) 131) = y1 at *
      generalize wr.heap.size = gw at *
      obtain ⟨y2, hcp, C2, B2⟩ : ∃ y2, (Builtin.copy_ #[25, 25] 3 #[.slice (some ⟨g, 256 + 4 * n, none⟩) (16 - e) (16 - e), .slice (some ⟨gw, 0, none⟩) 4 4]).run Tryz.prog y1.drew = .ok (.int .i64 4) y2 ∧ Ar y2 g 130 (cph F (4 * n + 4)) ∧ Below w.heap.size w y2 := by
        have hl : ((sub (rowTo 176 F 176) (4 * n) 4).map bv).length = 4 := by rw [List.length_map, SL.out]
        have hr := run_copy_row (P := Tryz.prog) y1.drew 25 25 3 5 g (256 + 4 * n) (16 - e) (16 - e) ⟨gw, 0, none⟩ 4 4 _ 130 ((sub (rowTo 176 F 176) (4 * n) 4).map bv) Tryz.underlying25 (by kernel_rfl) C1.drew (by rw [hl]; show 4 = min 4 (16 - e); omega)
          (fun j u hj => by
            have q := T1.drew.range 0 4 j u (by unfold sub; rw [List.drop_zero, List.take_of_length_le (by have := SL.out; unfold sub at this; rw [this]; omega)]; exact hj)
            rw [Addr.add_lit]
            exact q)
          (by rw [hl, arr_size, cph_len]; omega) (by intro u hu; obtain ⟨x, _, rfl⟩ := List.mem_map.1 hu; rfl)
        rw [hl, CC.out] at hr
        exact ⟨_, hr, C1.drew.row, below_row B1.drew hgz _⟩
      clear C1 B1 T1 CC
      refine wp_region_still_tail 11 (by kernel_rfl) (by kernel_rfl) ?_
      change wpStill _ _ (World.drew _) (fun a' => wpList _ _ _ _ a' (World.drew _)) _ _
      simp only [List.take_succ_cons, List.take_zero, List.drop_succ_cons, List.drop_zero]
      repeat still_step
      refine wpStill_nil ?_
      go_wp2_with fail
      exact ⟨⟨n + 1, _, _, hlt, num_succ n, rfl, rfl, by rw [show 4 * (n + 1) = 4 * n + 4 by omega]; exact C2, B2⟩, meas 44 n hlt⟩
    · have hn44 : n = 44 := by omega
      subst hn44
      rw [show 4 * 44 = 176 from rfl, ← HF.out] at C
      go_wp2
      go_ret
      exact ⟨g, rfl, C, hgz, B⟩
end Go.Proofs.YtckgjghpfjinfakGreat.W

namespace Go.Proofs.YtckgjghpfjinfakGreat.W
open Go.ChangeShapes Go.WideShapes Go.ChangeAt Go.RowKit
open Go.Proofs.YtckgjghpfjinfakGreat.M

set_option maxHeartbeats 1000000 in
set_option maxRecDepth 100000 in
theorem subm (gb gx : Nat) (l : List Nat) (w : World) (hl : l.length = 16) (y : Byt l) (hA : Ar w gb 107 l) (hX : ∀ a, a < 256 → w.cell? ⟨gx, a, none⟩ = some (.int .u8 (sbx a : Nat))) (hne : gx ≠ gb) :
    Calls Tryz.prog 86 #[.pointer (some ⟨gb, 0, none⟩), .pointer (some ⟨gx, 0, none⟩)] w fun e w' => e = .returned (.tuple #[]) ∧ Ar w' gb 107 (sbl l) ∧ w.grownBy w' (some gb) := by
  have hs : (sbl l).length = l.length := sbl_len l
  go_enter Tryz.func86, Tryz.ntmps86
  go_wp2
  go_loopw [4, 5, 7] (fun i p j wr => ∃ k : Nat, ∃ u v : Value, k ≤ 16 ∧ j = .int .i64 k ∧ i = u ∧ p = v ∧ Ar wr gb 107 (upd (sbl l) l k) ∧ w.grownBy wr (some gb)) (fun _ _ j _ => 16 - (intOf j).toNat)
  case atStart => exact ⟨0, _, _, by omega, rfl, rfl, rfl, by rw [upd_zero]; exact hA, World.grownBy.refl _ _⟩
  case round =>
    obtain ⟨k, u, v, hk, rfl, rfl, rfl, A, hG⟩ := hrel
    by_cases hlt : k < 16
    · have c1 := A.cell k (by rw [upd_len _ _ hs]; omega)
      rw [upd_gt _ _ hs k k (Nat.le_refl _) (by omega)] at c1
      have f1 := A.open k
      have hx := gt_byt l y k
      have c2 := grown_cell? hG (hX _ hx) hne
      have S := A.stored k (sbx (gt l k))
      have e : gt (sbl l) k = sbx (gt l k) := by rw [gt_eq l k (by omega), gt_eq (sbl l) k (by omega)]; simp [sbl]
      rw [← e, upd_set _ _ hs k (by omega), e] at S
      have SG := grown_cell hG k (.int .u8 (sbx (gt l k) : Nat))
      have hs2 := sbx_lt _ hx
      clear A hG hX e hA
      replace S := hid S
      replace SG := hid SG
      replace hs := hid hs
      have k0 : (0 : Int) ≤ (k : Int) := by omega
      have k1 : (k : Int) < 16 := by omega
      generalize gt l k = x at *
      generalize sbx x = z at *
      go_wp2
      go_quiet (fail)
      go_wp2
      go_region
      go_wp2
      exact ⟨⟨k + 1, _, _, by omega, by go_num, rfl, rfl, S.out.drewN (nq + 1), grown_drewN SG.out (nq + 1)⟩, by simp [intOf]; omega⟩
    · have hk8 : k = 16 := by omega
      subst hk8
      rw [upd_end _ _ hs 16 (by omega)] at A
      go_wp2
      go_end0
      exact ⟨rfl, A, hG⟩
end Go.Proofs.YtckgjghpfjinfakGreat.W

namespace Go.Proofs.YtckgjghpfjinfakGreat.W
open Go.ChangeShapes Go.WideShapes Go.ChangeAt Go.RowKit
open Go.Proofs.YtckgjghpfjinfakGreat.M

set_option maxHeartbeats 1000000 in
set_option maxRecDepth 100000 in
theorem shm (gb : Nat) (l : List Nat) (w : World) (hl : l.length = 16) (hA : Ar w gb 107 l) :
    Calls Tryz.prog 87 #[.pointer (some ⟨gb, 0, none⟩)] w fun e w' => e = .returned (.tuple #[]) ∧ Ar w' gb 107 (shl l) ∧ w.grownBy w' (some gb) := by
  have hs : (shl l).length = l.length := by rw [shl_len, hl]
  have hgl := hA.lt
  have Z := hid (blk_size l hl)
  go_enter Tryz.func87, Tryz.ntmps87
  go_wp2_with (first | refine wpList_load_row rfl 107 _ rfl gb rfl 107 (arr l) _ _ hA Tryz.underlying107 rfl Z.out ?_ | refine wpList_store_row rfl 107 _ _ rfl w.heap.size (arr l) rfl rfl 107 _ (heap_alloc_new w _) Z.out (by rw [arr_size, hl]; rfl) (arr_one _) ?_)
  rw [World.setRow_alloc_new]
  have A0 := hA.alloc (.cells (arr l) 107)
  have N0 := Ar.new w 107 l
  have G0 := World.grownBy_alloc w (.cells (arr l) 107) (some gb)
  clear hA
  go_loopw [3, 4, 8, 11] (fun i p j jj wr => ∃ c : Nat, ∃ u v x : Value, c ≤ 4 ∧ j = .int .i64 c ∧ i = u ∧ p = v ∧ jj = x ∧ Ar wr gb 107 (upd (shl l) l (4 * c)) ∧ Ar wr w.heap.size 107 l ∧ w.grownBy wr (some gb)) (fun _ _ j _ _ => 4 - (intOf j).toNat)
  case atStart => exact ⟨0, _, _, _, by omega, rfl, rfl, rfl, rfl, by rw [Nat.mul_zero, upd_zero]; exact A0, N0, G0⟩
  case round =>
    obtain ⟨c, u, v, x, hc, rfl, rfl, rfl, rfl, A, N, G⟩ := hrel
    clear A0 N0 G0
    by_cases hlt : c < 4
    · go_wp2
      go_loopw [4, 11] (fun p jj ws => ∃ r : Nat, ∃ v : Value, r ≤ 4 ∧ jj = .int .i64 r ∧ p = v ∧ Ar ws gb 107 (upd (shl l) l (4 * c + r)) ∧ Ar ws w.heap.size 107 l ∧ w.grownBy ws (some gb)) (fun _ jj _ => 4 - (intOf jj).toNat)
      case atStart => exact ⟨0, _, by omega, rfl, rfl, A, N, G⟩
      case round =>
        obtain ⟨r, v, hr, rfl, rfl, A2, N2, G2⟩ := hrel
        clear A N G
        by_cases hlr : r < 4
        · have c1 := N2.cell (4 * ((c + r) % 4) + r) (by omega)
          have c2 : ∃ u, wr.cell? ⟨gb, 4 * c + r, none⟩ = some u := ⟨_, A2.cell (4 * c + r) (by rw [upd_len _ _ hs]; omega)⟩
          obtain ⟨u2, c2⟩ := c2
          have f2 := A2.open (4 * c + r)
          have S := A2.stored (4 * c + r) (gt l (4 * ((c + r) % 4) + r))
          have e : gt (shl l) (4 * c + r) = gt l (4 * ((c + r) % 4) + r) := by
            rw [gt_eq (shl l) _ (by omega)]
            simp only [shl, List.getElem_map, List.getElem_range]
            unfold gt
            rw [show (4 * c + r + 4 * ((4 * c + r) % 4)) % 16 = 4 * ((c + r) % 4) + r by omega]
          rw [← e, upd_set _ _ hs _ (by omega), e] at S
          have SG := grown_cell G2 (4 * c + r) (.int .u8 (gt l (4 * ((c + r) % 4) + r) : Nat))
          have SN := N2.far (g' := gb) (k := 4 * c + r) (.int .u8 (gt l (4 * ((c + r) % 4) + r) : Nat)) (by omega)
          clear A2 N2 G2 e
          replace S := hid S
          replace SG := hid SG
          replace SN := hid SN
          replace hs := hid hs
          obtain ⟨q, hq⟩ : ∃ q, q = 4 * ((c + r) % 4) + r := ⟨_, rfl⟩
          rw [← hq] at c1 S SG SN
          obtain ⟨t, ht⟩ : ∃ t, t = 4 * c + r := ⟨_, rfl⟩
          have e1 : 4 * (((c : Int) + r) % 4) + r = (q : Int) := by omega
          have e2 : 4 * (c : Int) + r = (t : Int) := by omega
          have q1 : (q : Int) < 16 := by omega
          have t1 : (t : Int) < 16 := by omega
          have q0 : (0 : Int) ≤ (q : Int) := by omega
          have t0 : (0 : Int) ≤ (t : Int) := by omega
          have r0 : (0 : Int) ≤ (r : Int) := by omega
          have r1 : (r : Int) < 4 := by omega
          have c0 : (0 : Int) ≤ (c : Int) := by omega
          have c1' : (c : Int) < 4 := by omega
          have ht' := hid ht
          rw [← ht] at c2 f2 S SG SN
          clear hq ht
          generalize gt l q = z at *
          go_wp2
          go_region
          go_wp2
          exact ⟨⟨r + 1, _, by omega, by go_num, rfl, by rw [show 4 * c + (r + 1) = t + 1 by have := ht'.out; omega]; exact S.out.drew, SN.out.drew, grown_drew SG.out⟩, by simp [intOf]; omega⟩
        · have hr4 : r = 4 := by omega
          subst hr4
          go_wp2
          exact ⟨⟨c + 1, _, _, _, by omega, by go_num, rfl, rfl, rfl, A2, N2, G2⟩, by simp [intOf]; omega⟩
    · have hc4 : c = 4 := by omega
      subst hc4
      rw [upd_end _ _ hs (4 * 4) (by omega)] at A
      go_wp2
      go_end0
      exact ⟨rfl, A, G⟩
end Go.Proofs.YtckgjghpfjinfakGreat.W

namespace Go.Proofs.YtckgjghpfjinfakGreat.W
open Go.ChangeShapes Go.WideShapes Go.ChangeAt Go.RowKit
open Go.Proofs.YtckgjghpfjinfakGreat.M

set_option maxHeartbeats 1000000 in
set_option maxRecDepth 100000 in
theorem mxm (gb : Nat) (l : List Nat) (w : World) (hl : l.length = 16) (y : Byt l) (hA : Ar w gb 107 l) :
    Calls Tryz.prog 88 #[.pointer (some ⟨gb, 0, none⟩)] w fun e w' => e = .returned (.tuple #[]) ∧ Ar w' gb 107 (mxl l) ∧ w.grownBy w' (some gb) := by
  have hs : (mxl l).length = l.length := by rw [mxl_len, hl]
  have hgl := hA.lt
  have Z := hid (blk_size l hl)
  go_enter Tryz.func88, Tryz.ntmps88
  go_wp2_with (first | refine wpList_load_row rfl 107 _ rfl gb rfl 107 (arr l) _ _ hA Tryz.underlying107 rfl Z.out ?_ | refine wpList_store_row rfl 107 _ _ rfl w.heap.size (arr l) rfl rfl 107 _ (heap_alloc_new w _) Z.out (by rw [arr_size, hl]; rfl) (arr_one _) ?_)
  rw [World.setRow_alloc_new]
  have A0 := hA.alloc (.cells (arr l) 107)
  have N0 := Ar.new w 107 l
  have G0 := World.grownBy_alloc w (.cells (arr l) 107) (some gb)
  clear hA
  go_loopw [3, 4, 5, 6, 10, 21] (fun i q p n j jj wr => ∃ c : Nat, ∃ u v x y z : Value, c ≤ 4 ∧ j = .int .i64 c ∧ i = u ∧ q = y ∧ p = v ∧ n = z ∧ jj = x ∧ Ar wr gb 107 (upd (mxl l) l (4 * c)) ∧ Ar wr w.heap.size 107 l ∧ w.grownBy wr (some gb)) (fun _ _ _ _ j _ _ => 4 - (intOf j).toNat)
  case atStart => exact ⟨0, _, _, _, _, _, by omega, rfl, rfl, rfl, rfl, rfl, rfl, by rw [Nat.mul_zero, upd_zero]; exact A0, N0, G0⟩
  case round =>
    obtain ⟨c, u, v, x, y1, z1, hc, rfl, rfl, rfl, rfl, rfl, rfl, A, N, G⟩ := hrel
    clear A0 N0 G0
    by_cases hlt : c < 4
    · obtain ⟨w1, rfl⟩ : ∃ w1, w1 = wr := ⟨_, rfl⟩
      have c0 : (0 : Int) ≤ (c : Int) := by omega
      have c1 : (c : Int) < 4 := by omega
      have HS : ∀ w' : World, (Instr.sliceAt 107 (.pointer (some ⟨w.heap.size, 0, none⟩)) (some (.int .i64 (4 * (c : Int)))) (some (.int .i64 (4 * ((c : Int) + 1)))) none).run Tryz.prog w' = .ok (.slice (some ⟨w.heap.size, 4 * c, none⟩) 4 (16 - 4 * c)) w' := fun w' => by
        have hs : ∀ w : World, (sizeOf (Tryz.prog.elem 107)).run Tryz.prog w = .ok 1 w := fun _ => by kernel_rfl
        rw [run_sliceAt_array_lh (P := Tryz.prog) w' 107 _ (by kernel_rfl) .i64 .i64 (4 * (c : Int)) (4 * ((c : Int) + 1)) (by omega) (by omega) (by rw [show Tryz.prog.arrayLen 107 = 16 by kernel_rfl]; omega), hs]
        have e1 : (4 * (c : Int)).toNat = 4 * c := by omega
        have e2 : (4 * ((c : Int) + 1)).toNat = 4 * c + 4 := by omega
        have e3 : ¬ (16 = 4 * c) := by omega
        simp [Result.andThen, slicedAt, e1, e2, e3, Addr.add_lit, show Tryz.prog.arrayLen 107 = 16 by kernel_rfl]
      have HP := arr_at 113 5 4 Tryz.underlying113 (some ⟨w.heap.size, 4 * c, none⟩) 4 (16 - 4 * c) (Nat.le_refl _)
      have hcl := sub_len l (4 * c) 4 (by omega)
      have Z4 := hid (show (Tryz.prog.info? 113).map (·.size) = some (arr (sub l (4 * c) 4)).size by rw [arr_size, hcl]; kernel_rfl)
      have ZL := hid hcl
      have RG := hid (N.range (4 * c) 4)
      clear hcl
      go_wp2_with (first | refine load_sub rfl 113 _ rfl w.heap.size (4 * c) rfl (sub l (4 * c) 4) RG.out _ Tryz.underlying113 rfl Z4.out ?_ | refine wpList_store_row rfl 113 _ _ rfl w1.heap.size (arr (sub l (4 * c) 4)) rfl rfl 113 _ (heap_alloc_new w1 _) Z4.out (by rw [arr_size, ZL.out]; rfl) (arr_one _) ?_)
      rw [World.setRow_alloc_new]
      have N1 := N.alloc (.cells (arr (sub l (4 * c) 4)) 113)
      have A1 := A.alloc (.cells (arr (sub l (4 * c) 4)) 113)
      have C1 := Ar.new w1 113 (sub l (4 * c) 4)
      have G1 := grown_trans G (World.grownBy_alloc w1 (.cells (arr (sub l (4 * c) 4)) 113) (some gb))
      have hz := N.lt
      generalize w1.heap.size = g at *
      clear A N G RG HS HP Z4 Z
      go_loopw [5, 6, 21] (fun p n jj ws => ∃ r : Nat, ∃ v z : Value, r ≤ 4 ∧ jj = .int .i64 r ∧ p = v ∧ n = z ∧ Ar ws gb 107 (upd (mxl l) l (4 * c + r)) ∧ Ar ws w.heap.size 107 l ∧ Ar ws g 113 (sub l (4 * c) 4) ∧ w.grownBy ws (some gb)) (fun _ _ jj _ => 4 - (intOf jj).toNat)
      case atStart => exact ⟨0, _, _, by omega, rfl, rfl, rfl, A1, N1, C1, G1⟩
      case round =>
        obtain ⟨r, v, z, hr, rfl, rfl, rfl, A2, N2, C2, G2⟩ := hrel
        clear A1 N1 C1 G1
        by_cases hlr : r < 4
        · have hcl := ZL.out
          obtain ⟨n1, h1⟩ : ∃ n, n = (r + 1) % 4 := ⟨_, rfl⟩
          obtain ⟨n2, h2⟩ : ∃ n, n = (r + 2) % 4 := ⟨_, rfl⟩
          obtain ⟨n3, h3⟩ : ∃ n, n = (r + 3) % 4 := ⟨_, rfl⟩
          obtain ⟨t, ht⟩ : ∃ t, t = 4 * c + r := ⟨_, rfl⟩
          have d0 := C2.cell r (by omega)
          have d1 := C2.cell n1 (by omega)
          have d2 := C2.cell n2 (by omega)
          have d3 := C2.cell n3 (by omega)
          have b0 : gt (sub l (4 * c) 4) r = gt l (4 * c + r) := sub_gt _ _ _ _ (by omega)
          have b1 : gt (sub l (4 * c) 4) n1 = gt l (4 * c + n1) := sub_gt _ _ _ _ (by omega)
          have b2 : gt (sub l (4 * c) 4) n2 = gt l (4 * c + n2) := sub_gt _ _ _ _ (by omega)
          have b3 : gt (sub l (4 * c) 4) n3 = gt l (4 * c + n3) := sub_gt _ _ _ _ (by omega)
          rw [b0] at d0
          rw [b1] at d1
          rw [b2] at d2
          rw [b3] at d3
          have x0 := gt_byt l y (4 * c + r)
          have x1 := gt_byt l y (4 * c + n1)
          have x2 := gt_byt l y (4 * c + n2)
          have x3 := gt_byt l y (4 * c + n3)
          have e : gt (mxl l) t = (((xt (gt l (4 * c + r)) ^^^ xt (gt l (4 * c + n1))) ^^^ gt l (4 * c + n1)) ^^^ gt l (4 * c + n2)) ^^^ gt l (4 * c + n3) := by
            have hm := mxl_len l
            rw [gt_eq (mxl l) _ (by omega)]
            simp only [mxl, List.getElem_map, List.getElem_range, mxb]
            unfold gt
            rw [show t / 4 * 4 + (t + 0) % 4 = 4 * c + r by omega, show t / 4 * 4 + (t + 1) % 4 = 4 * c + n1 by omega, show t / 4 * 4 + (t + 2) % 4 = 4 * c + n2 by omega, show t / 4 * 4 + (t + 3) % 4 = 4 * c + n3 by omega, Nat.xor_assoc (xt _) (xt _)]
          have c2 : ∃ u, wr.cell? ⟨gb, t, none⟩ = some u := ⟨_, A2.cell t (by rw [upd_len _ _ hs]; omega)⟩
          obtain ⟨u2, c2⟩ := c2
          have f2 := A2.open t
          have S := A2.stored (4 * c + r) (gt (mxl l) (4 * c + r))
          rw [upd_set _ _ hs _ (by omega), ← ht] at S
          have SG := grown_cell G2 t (.int .u8 (gt (mxl l) t : Nat))
          have SN := N2.far (g' := gb) (k := t) (.int .u8 (gt (mxl l) t : Nat)) (by omega)
          have SC := C2.far (g' := gb) (k := t) (.int .u8 (gt (mxl l) t : Nat)) (by omega)
          have k0 := SC.cell r (by omega)
          have k2 := SC.cell n2 (by omega)
          have k3 := SC.cell n3 (by omega)
          rw [b0] at k0
          rw [b2] at k2
          rw [b3] at k3
          generalize gt l (4 * c + r) = a0 at *
          generalize gt l (4 * c + n1) = a1 at *
          generalize gt l (4 * c + n2) = a2 at *
          generalize gt l (4 * c + n3) = a3 at *
          generalize gt (mxl l) t = m at *
          have y0 := xt_lt a0
          have y1 := xt_lt a1
          have E : bits .xor .u8 (bits .xor .u8 (bits .xor .u8 (bits .xor .u8 (xt a0 : Nat) (xt a1 : Nat)) (a1 : Nat)) (a2 : Nat)) (a3 : Nat) = ((m : Nat) : Int) := by
            rw [xor8 _ _ y0 y1, xor8 _ _ (xor_lt _ _ y0 y1) x1, xor8 _ _ (xor_lt _ _ (xor_lt _ _ y0 y1) x1) x2, xor8 _ _ (xor_lt _ _ (xor_lt _ _ (xor_lt _ _ y0 y1) x1) x2) x3, e]
          clear e b0 b1 b2 b3 A2 N2 C2 G2
          replace S := hid S
          replace SG := hid SG
          replace SN := hid SN
          replace SC := hid SC
          have KP := hid (And.intro k0 (And.intro k2 k3))
          clear k0 k2 k3
          replace hs := hid hs
          have e1 : ((r : Int) + 1) % 4 = (n1 : Int) := by omega
          have e2 : ((r : Int) + 2) % 4 = (n2 : Int) := by omega
          have e3 : ((r : Int) + 3) % 4 = (n3 : Int) := by omega
          have e4 : 4 * (c : Int) + r = (t : Int) := by omega
          have q1 : (n1 : Int) < 4 := by omega
          have q2 : (n2 : Int) < 4 := by omega
          have q3 : (n3 : Int) < 4 := by omega
          have q4 : (t : Int) < 16 := by omega
          have p1 : (0 : Int) ≤ (n1 : Int) := by omega
          have p2 : (0 : Int) ≤ (n2 : Int) := by omega
          have p3 : (0 : Int) ≤ (n3 : Int) := by omega
          have p4 : (0 : Int) ≤ (t : Int) := by omega
          have r0 : (0 : Int) ≤ (r : Int) := by omega
          have r1 : (r : Int) < 4 := by omega
          have v1 : IntKind.i64.wrap ((r : Int) + 2) = (r : Int) + 2 := by rw [IntKind.wrap_i64]; omega
          have v2 : IntKind.i64.wrap ((r : Int) + 3) = (r : Int) + 3 := by rw [IntKind.wrap_i64]; omega
          have v3 : IntKind.i64.wrap (4 * (c : Int)) = 4 * (c : Int) := by rw [IntKind.wrap_i64]; omega
          have v4 : IntKind.i64.wrap (t : Int) = (t : Int) := by rw [IntKind.wrap_i64]; omega
          have v5 : ((r : Int) + 2).tmod 4 = (n2 : Int) := by rw [Int.tmod_eq_emod_of_nonneg (by omega)]; omega
          have v6 : ((r : Int) + 3).tmod 4 = (n3 : Int) := by rw [Int.tmod_eq_emod_of_nonneg (by omega)]; omega
          have v7 : IntKind.i64.wrap (n2 : Int) = (n2 : Int) := by rw [IntKind.wrap_i64]; omega
          have v8 : IntKind.i64.wrap (n3 : Int) = (n3 : Int) := by rw [IntKind.wrap_i64]; omega
          have ht' := hid ht
          clear h1 h2 h3 ht
          have KT : (wr.setCell ⟨gb, t, none⟩ (.int .u8 (m : Nat))).drew.cell? ⟨g, r, none⟩ = some (.int .u8 (a0 : Nat)) ∧ (wr.setCell ⟨gb, t, none⟩ (.int .u8 (m : Nat))).drew.cell? ⟨g, n2, none⟩ = some (.int .u8 (a2 : Nat)) ∧ (wr.setCell ⟨gb, t, none⟩ (.int .u8 (m : Nat))).drew.cell? ⟨g, n3, none⟩ = some (.int .u8 (a3 : Nat)) := KP.out
          clear KT
          go_wp2_with fail
          go_region_held3 (fun w' => w'.cell? ⟨g, r, none⟩ = some (.int .u8 (a0 : Nat)) ∧ w'.cell? ⟨g, n2, none⟩ = some (.int .u8 (a2 : Nat)) ∧ w'.cell? ⟨g, n3, none⟩ = some (.int .u8 (a3 : Nat))) (first | exact KP.out | go_keep) ((go_at_call 95; refine (tp1 _ ?_ _).mono ?_; (first | exact x0 | exact x1); rintro e w' ⟨rfl, rfl⟩))
          go_wp2
          exact ⟨⟨r + 1, _, _, by omega, by go_num, rfl, rfl, by rw [show 4 * c + (r + 1) = t + 1 by have := ht'.out; omega]; exact S.out.drew, SN.out.drew, SC.out.drew, grown_drew SG.out⟩, by simp [intOf]; omega⟩
        · have hr4 : r = 4 := by omega
          subst hr4
          go_wp2
          exact ⟨⟨c + 1, _, _, _, _, _, by omega, by go_num, rfl, rfl, rfl, rfl, rfl, A2, N2, G2⟩, by simp [intOf]; omega⟩
    · have hc4 : c = 4 := by omega
      subst hc4
      rw [upd_end _ _ hs (4 * 4) (by omega)] at A
      go_wp2
      go_end0
      exact ⟨rfl, A, G⟩
end Go.Proofs.YtckgjghpfjinfakGreat.W

namespace Go.Proofs.YtckgjghpfjinfakGreat.W
open Go.ChangeShapes Go.WideShapes Go.ChangeAt Go.RowKit
open Go.Proofs.YtckgjghpfjinfakGreat.M

set_option maxHeartbeats 1000000 in
set_option maxRecDepth 100000 in
theorem addm (gb : Nat) (l k : List Nat) (w : World) (hl : l.length = 16) (hk : k.length = 16) (y : Byt l) (yk : Byt k) (hA : Ar w gb 107 l) :
    Calls Tryz.prog 80 #[.pointer (some ⟨gb, 0, none⟩), .agg (arr k)] w fun e w' => e = .returned (.tuple #[]) ∧ Ar w' gb 107 (xl l k) ∧ w.grownBy w' (some gb) := by
  have hs : (xl l k).length = l.length := xl_len l k
  have hgl := hA.lt
  have Z := hid (blk_size k hk)
  go_enter Tryz.func80, Tryz.ntmps80
  go_wp2_with (refine wpList_load_row rfl 107 _ rfl w.heap.size rfl 107 (arr k) _ _ (heap_alloc_new w _) Tryz.underlying107 rfl Z.out ?_)
  go_loopw [4, 5, 7] (fun i p j wr => ∃ n : Nat, ∃ u v : Value, n ≤ 16 ∧ j = .int .i64 n ∧ i = u ∧ p = v ∧ Ar wr gb 107 (upd (xl l k) l n) ∧ w.grownBy wr (some gb)) (fun _ _ j _ => 16 - (intOf j).toNat)
  case atStart => exact ⟨0, _, _, by omega, rfl, rfl, rfl, by rw [upd_zero]; exact hA.alloc _, World.grownBy_alloc w _ _⟩
  case round =>
    obtain ⟨n, u, v, hn, rfl, rfl, rfl, A, hG⟩ := hrel
    by_cases hlt : n < 16
    · have c1 := A.cell n (by rw [upd_len _ _ hs]; omega)
      rw [upd_gt _ _ hs n n (Nat.le_refl _) (by omega)] at c1
      have f1 := A.open n
      have hix := idx_arr 107 16 Tryz.underlying107 k hk n hlt
      have hx := gt_byt l y n
      have hx2 := gt_byt k yk n
      have S := A.stored n (gt l n ^^^ gt k n)
      have e : gt (xl l k) n = gt l n ^^^ gt k n := by
        rw [gt_eq (xl l k) n (by omega), xl_at l k n (by omega) (by omega) (by omega), gt_eq l n (by omega), gt_eq k n (by omega)]
      rw [← e, upd_set _ _ hs n (by omega), e] at S
      have SG := grown_cell hG n (.int .u8 (gt l n ^^^ gt k n : Nat))
      have E := xor8 _ _ hx hx2
      clear A hG e hA
      replace S := hid S
      replace SG := hid SG
      replace hs := hid hs
      have k0 : (0 : Int) ≤ (n : Int) := by omega
      have k1 : (n : Int) < 16 := by omega
      generalize gt l n ^^^ gt k n = z at *
      generalize gt l n = x at *
      generalize gt k n = x2 at *
      go_wp2
      go_region
      go_wp2
      exact ⟨⟨n + 1, _, _, by omega, by go_num, rfl, rfl, S.out.drew, grown_drew SG.out⟩, by simp [intOf]; omega⟩
    · have hk8 : n = 16 := by omega
      subst hk8
      rw [upd_end _ _ hs 16 (by omega)] at A
      go_wp2
      go_end0
      exact ⟨rfl, A, hG⟩
end Go.Proofs.YtckgjghpfjinfakGreat.W

namespace Go.Proofs.YtckgjghpfjinfakGreat.W
open Go.ChangeShapes Go.WideShapes Go.ChangeAt Go.RowKit
open Go.Proofs.YtckgjghpfjinfakGreat.M

theorem rk_sub (F : Nat → Nat) (r : Nat) (hr : r < 11) : sub (cph F 176) (256 + 16 * r) 16 = rkl F r := by
  have l1 := sub_len (cph F 176) (256 + 16 * r) 16 (by rw [cph_len]; omega)
  apply List.ext_getElem (by rw [l1, rkl_len])
  intro i h1 h2
  have hi : i < 16 := by rw [rkl_len] at h2; exact h2
  rw [← gt_eq _ i h1, ← gt_eq _ i h2, sub_gt _ _ _ _ hi, rkl_gt _ _ _ hi, show 256 + 16 * r + i = 256 + (16 * r + i) by omega, cph_word, rowTo_gt _ _ _ _ (by omega) (Nat.le_refl _)]

theorem ar_grown {w w' : World} {g gb : Nat} {T : TypeId} {l : List Nat} (h : Ar w g T l) (hG : w.grownBy w' (some gb)) (hne : g ≠ gb) : Ar w' g T l := var_grown hG h (by intro e; exact hne (Option.some.inj e))
theorem cph_cells {w : World} {g : Nat} {T : TypeId} {F : Nat → Nat} (h : Ar w g T (cph F 176)) (a : Nat) (ha : a < 256) : w.cell? ⟨g, a, none⟩ = some (.int .u8 (sbx a : Nat)) := by
  rw [h.cell a (by rw [cph_len]; omega), cph_box _ _ _ ha]
theorem cph_rk {w : World} {g : Nat} {T : TypeId} {F : Nat → Nat} (h : Ar w g T (cph F 176)) (r : Nat) (hr : r < 11) : w.rangeAt g (256 + 16 * r) ((rkl F r).map bv) := by
  have q := h.range (256 + 16 * r) 16
  rw [rk_sub F r hr] at q
  exact q

set_option maxHeartbeats 2000000 in
set_option maxRecDepth 100000 in
theorem encr (l : List Nat) (F : Nat → Nat) (g : Nat) (w : World) (hl : l.length = 16) (y : Byt l) (hF : ∀ j, F j < 256) (hC : Ar w g 130 (cph F 176)) :
    Calls Tryz.prog 75 #[.pointer (some ⟨g, 0, none⟩), .agg (arr l)] w fun e w' => e = .returned (.agg (arr (enc F l))) ∧ Below w.heap.size w w' := by
  have hmf : ∀ (fn : Fn) (first cap : Array Value) (w : World), (Instr.makeFunc fn first cap).run Tryz.prog w = .ok (.func fn first cap) w := fun _ _ _ _ => rfl
  have HF := hid hF
  have HL := hid hl
  have hgl := hC.lt
  clear hl hF
  go_enter Tryz.func75, Tryz.ntmps75
  have X : Ar ((w.alloc (.cells (arr l) 107)).alloc (.cells #[.int .u8 0, .int .u8 0, .int .u8 0, .int .u8 0, .int .u8 0, .int .u8 0, .int .u8 0, .int .u8 0, .int .u8 0, .int .u8 0, .int .u8 0, .int .u8 0, .int .u8 0, .int .u8 0, .int .u8 0, .int .u8 0] 107)) w.heap.size 107 l := heap_alloc2_old w _ _
  have R : Ar ((w.alloc (.cells (arr l) 107)).alloc (.cells #[.int .u8 0, .int .u8 0, .int .u8 0, .int .u8 0, .int .u8 0, .int .u8 0, .int .u8 0, .int .u8 0, .int .u8 0, .int .u8 0, .int .u8 0, .int .u8 0, .int .u8 0, .int .u8 0, .int .u8 0, .int .u8 0] 107)) (w.heap.size + 1) 107 (zs 16) := heap_alloc2_new w _ _
  have B := below_alloc2 w (.cells (arr l) 107) (.cells #[.int .u8 0, .int .u8 0, .int .u8 0, .int .u8 0, .int .u8 0, .int .u8 0, .int .u8 0, .int .u8 0, .int .u8 0, .int .u8 0, .int .u8 0, .int .u8 0, .int .u8 0, .int .u8 0, .int .u8 0, .int .u8 0] 107)
  have C := (hC.alloc (.cells (arr l) 107)).alloc (.cells #[.int .u8 0, .int .u8 0, .int .u8 0, .int .u8 0, .int .u8 0, .int .u8 0, .int .u8 0, .int .u8 0, .int .u8 0, .int .u8 0, .int .u8 0, .int .u8 0, .int .u8 0, .int .u8 0, .int .u8 0, .int .u8 0] 107)
  clear hC
  have RG := hid (cph_rk C 0 (by omega))
  go_wp2_with (refine load_sub rfl 107 _ rfl g (256) rfl (rkl F (0)) RG.out _ Tryz.underlying107 rfl (blk_size _ (rkl_len _ _)) ?_)
  generalize (w.alloc (.cells (arr l) 107)).alloc (.cells #[.int .u8 0, .int .u8 0, .int .u8 0, .int .u8 0, .int .u8 0, .int .u8 0, .int .u8 0, .int .u8 0, .int .u8 0, .int .u8 0, .int .u8 0, .int .u8 0, .int .u8 0, .int .u8 0, .int .u8 0, .int .u8 0] 107) = W at *
  obtain ⟨gb, hgb⟩ : ∃ b, b = w.heap.size := ⟨_, rfl⟩
  rw [← hgb] at X R ⊢
  have Hgb := hid hgb
  clear hgb
  refine (addm gb l (rkl F 0) _ HL.out (rkl_len _ _) y (rkl_byt F HF.out 0) X).mono ?_
  rintro e w1 ⟨rfl, XN, hG⟩
  replace C := ar_grown C hG (by have := Hgb.out; omega)
  replace R := ar_grown R hG (by have := Hgb.out; omega)
  replace B := B.grown hG B.size (fun k e => by cases e; have := Hgb.out; omega)
  replace X := XN
  clear XN hG
  rw [show xl l (rkl F 0) = stt F l 0 from rfl] at X
  clear RG
  have XH := hid X
  have CH := hid C
  have RH := hid R
  have BH := hid B
  clear X C R B
  go_wp2_with fail
  go_loopw [9] (fun s9 ws => ∃ n r : Nat, n ≤ 9 ∧ Hid (r = n + 1) ∧ s9 = .int .i64 (r : Nat) ∧ Ar ws gb 107 (stt F l n) ∧ Ar ws g 130 (cph F 176) ∧ Ar ws (gb + 1) 107 (zs 16) ∧ Below w.heap.size w ws) (fun s9 _ => 10 - (intOf s9).toNat)
  case atStart => exact ⟨0, 1, by omega, hid rfl, rfl, XH.out, CH.out, RH.out, BH.out⟩
  case round =>
    obtain ⟨n, r, hn, Hr, rfl, X, C, R, B⟩ := hrel
    clear XH CH RH BH
    have sl := hid (stt_len F l HL.out n)
    have sb := hid (stt_byt F HF.out l y n)
    have I0 := idx_rk g 256 r (by have := Hr.out; omega)
    by_cases hlt : n < 9
    · have r1 : (r : Int) < 10 := by have := Hr.out; omega
      have r0 : (0 : Int) ≤ (r : Int) := by omega
      have SE := hid (show stt F l (n + 1) = xl (mxl (shl (sbl (stt F l n)))) (rkl F (n + 1)) by rw [stt, if_pos (by omega)])
      have XH := hid X
      have CH := hid C
      have RH := hid R
      have BH := hid B
      clear X C R B
      go_wp2_with fail
      have X := XH.out
      have C := CH.out
      have R := RH.out
      have B := BH.out
      clear XH CH RH BH
      refine (subm gb g (stt F l n) _ sl.out sb.out X (cph_cells C) (by have := Hgb.out; omega)).mono ?_
      rintro e w2 ⟨rfl, XN, hG⟩
      replace C := ar_grown C hG (by have := Hgb.out; omega)
      replace R := ar_grown R hG (by have := Hgb.out; omega)
      replace B := B.grown hG B.size (fun k e => by cases e; have := Hgb.out; omega)
      replace X := XN
      clear XN hG
      have XH := hid X
      have CH := hid C
      have RH := hid R
      have BH := hid B
      clear X C R B
      go_wp2_with fail
      have X := XH.out
      have C := CH.out
      have R := RH.out
      have B := BH.out
      clear XH CH RH BH
      refine (shm gb (sbl (stt F l n)) _ (sbl_len16 _ sl.out) X).mono ?_
      rintro e w3 ⟨rfl, XN, hG⟩
      replace C := ar_grown C hG (by have := Hgb.out; omega)
      replace R := ar_grown R hG (by have := Hgb.out; omega)
      replace B := B.grown hG B.size (fun k e => by cases e; have := Hgb.out; omega)
      replace X := XN
      clear XN hG
      have XH := hid X
      have CH := hid C
      have RH := hid R
      have BH := hid B
      clear X C R B
      go_wp2_with fail
      have X := XH.out
      have C := CH.out
      have R := RH.out
      have B := BH.out
      clear XH CH RH BH
      refine (mxm gb (shl (sbl (stt F l n))) _ (shl_len _) (shl_byt _ (sbl_byt _ sb.out)) X).mono ?_
      rintro e w4 ⟨rfl, XN, hG⟩
      replace C := ar_grown C hG (by have := Hgb.out; omega)
      replace R := ar_grown R hG (by have := Hgb.out; omega)
      replace B := B.grown hG B.size (fun k e => by cases e; have := Hgb.out; omega)
      replace X := XN
      clear XN hG
      have RG := hid (cph_rk C r (by have := Hr.out; omega))
      have XH := hid X
      have CH := hid C
      have RH := hid R
      have BH := hid B
      clear X C R B
      go_wp2_with (refine load_sub rfl 107 _ rfl g (256 + 16 * r) rfl (rkl F (r)) RG.out _ Tryz.underlying107 rfl (blk_size _ (rkl_len _ _)) ?_)
      have X := XH.out
      have C := CH.out
      have R := RH.out
      have B := BH.out
      clear XH CH RH BH
      refine (addm gb (mxl (shl (sbl (stt F l n)))) (rkl F r) _ (mxl_len _) (rkl_len _ _) (mxl_byt _ (shl_byt _ (sbl_byt _ sb.out))) (rkl_byt F HF.out r) X).mono ?_
      rintro e w5 ⟨rfl, XN, hG⟩
      replace C := ar_grown C hG (by have := Hgb.out; omega)
      replace R := ar_grown R hG (by have := Hgb.out; omega)
      replace B := B.grown hG B.size (fun k e => by cases e; have := Hgb.out; omega)
      replace X := XN
      clear XN hG
      clear RG
      have XH := hid X
      have CH := hid C
      have RH := hid R
      have BH := hid B
      clear X C R B
      go_wp2_with fail
      refine ⟨⟨n + 1, r + 1, by omega, hid (by rw [Hr.out]), num_succ r, ?_, CH.out, RH.out, BH.out⟩, ?_⟩
      · rw [SE.out]
        have q := XH.out
        rw [Hr.out] at q
        exact q
      · have hr := Hr.out
        simp [intOf]
        omega
    · have hn9 : n = 9 := by omega
      subst hn9
      have r1 : ¬ (r : Int) < 10 := by have := Hr.out; omega
      have SE := hid (show enc F l = xl (shl (sbl (stt F l 9))) (rkl F 10) by rw [enc, stt, if_neg (by omega)])
      clear I0 hn hlt
      have XH := hid X
      have CH := hid C
      have RH := hid R
      have BH := hid B
      clear X C R B
      go_wp2_with fail
      have X := XH.out
      have C := CH.out
      have R := RH.out
      have B := BH.out
      clear XH CH RH BH
      refine (subm gb g (stt F l 9) _ sl.out sb.out X (cph_cells C) (by have := Hgb.out; omega)).mono ?_
      rintro e w2 ⟨rfl, XN, hG⟩
      replace C := ar_grown C hG (by have := Hgb.out; omega)
      replace R := ar_grown R hG (by have := Hgb.out; omega)
      replace B := B.grown hG B.size (fun k e => by cases e; have := Hgb.out; omega)
      replace X := XN
      clear XN hG
      have XH := hid X
      have CH := hid C
      have RH := hid R
      have BH := hid B
      clear X C R B
      go_wp2_with fail
      have X := XH.out
      have C := CH.out
      have R := RH.out
      have B := BH.out
      clear XH CH RH BH
      refine (shm gb (sbl (stt F l 9)) _ (sbl_len16 _ sl.out) X).mono ?_
      rintro e w3 ⟨rfl, XN, hG⟩
      replace C := ar_grown C hG (by have := Hgb.out; omega)
      replace R := ar_grown R hG (by have := Hgb.out; omega)
      replace B := B.grown hG B.size (fun k e => by cases e; have := Hgb.out; omega)
      replace X := XN
      clear XN hG
      have RG := hid (cph_rk C 10 (by omega))
      have XH := hid X
      have CH := hid C
      have RH := hid R
      have BH := hid B
      clear X C R B
      go_wp2_with (refine load_sub rfl 107 _ rfl g (416) rfl (rkl F (10)) RG.out _ Tryz.underlying107 rfl (blk_size _ (rkl_len _ _)) ?_)
      have X := XH.out
      have C := CH.out
      have R := RH.out
      have B := BH.out
      clear XH CH RH BH
      refine (addm gb (shl (sbl (stt F l 9))) (rkl F 10) _ (shl_len _) (rkl_len _ _) (shl_byt _ (sbl_byt _ sb.out)) (rkl_byt F HF.out 10) X).mono ?_
      rintro e w5 ⟨rfl, XN, hG⟩
      replace C := ar_grown C hG (by have := Hgb.out; omega)
      replace R := ar_grown R hG (by have := Hgb.out; omega)
      replace B := B.grown hG B.size (fun k e => by cases e; have := Hgb.out; omega)
      replace X := XN
      clear XN hG
      clear RG
      rw [← SE.out] at X
      have Z := hid (blk_size (enc F l) (stt_len F l HL.out 10))
      have SR := hid (R.row (l' := enc F l))
      have SB := hid (below_row B (g := gb + 1) (by have := Hgb.out; omega) (arr (enc F l)))
      have ho := hid (show (arr (zs 16)).size = (arr (enc F l)).size by rw [arr_size, arr_size, zs_len]; exact (stt_len F l HL.out 10).symm)
      have XH := hid X
      have CH := hid C
      have RH := hid R
      have BH := hid B
      clear X C R B
      go_wp2_with (first | refine wpList_load_row rfl 107 _ rfl gb rfl 107 (arr (enc F l)) _ _ XH.out Tryz.underlying107 rfl Z.out ?_ | refine wpList_store_row rfl 107 _ _ rfl (gb + 1) (arr (enc F l)) rfl rfl 107 _ RH.out Z.out ho.out (arr_one _) ?_)
      exact bodyPost_ret (v := .agg (arr (enc F l))) (results_cell_row rfl _ _ (gb + 1) 107 _ _ _ rfl SR.out Tryz.underlying107 rfl Z.out) rfl ⟨rfl, SB.out⟩
end Go.Proofs.YtckgjghpfjinfakGreat.W

namespace Go.Proofs.YtckgjghpfjinfakGreat.W
open Go.ChangeShapes Go.WideShapes Go.ChangeAt Go.RowKit
open Go.Proofs.YtckgjghpfjinfakGreat.M

theorem El.cell0 {w : World} {g : Nat} {p : Nat × Nat} (h : El w g p) : w.cell? ⟨g, 0, none⟩ = some (.int .u64 (p.1 : Int)) ∧ w.frozen? ⟨g, 0, none⟩ = false := ⟨by rw [cell_of_row w g 0 _ _ _ h]; rfl, frozen_of_row w g 0 _ _ h⟩
theorem El.cell1 {w : World} {g : Nat} {p : Nat × Nat} (h : El w g p) : w.cell? ⟨g, 1, none⟩ = some (.int .u64 (p.2 : Int)) ∧ w.frozen? ⟨g, 1, none⟩ = false := ⟨by rw [cell_of_row w g 1 _ _ _ h]; rfl, frozen_of_row w g 1 _ _ h⟩
theorem El.set0 {w : World} {g : Nat} {p : Nat × Nat} (h : El w g p) (x : Nat) : El (w.setCell ⟨g, 0, none⟩ (.int .u64 (x : Int))) g (x, p.2) := by
  have h1 := heap_setCell_same w g 0 _ _ (.int .u64 (x : Int)) h
  exact h1
theorem El.set1 {w : World} {g : Nat} {p : Nat × Nat} (h : El w g p) (x : Nat) : El (w.setCell ⟨g, 1, none⟩ (.int .u64 (x : Int))) g (p.1, x) := by
  have h1 := heap_setCell_same w g 1 _ _ (.int .u64 (x : Int)) h
  exact h1
theorem El.cfar {w : World} {g g' k : Nat} {p : Nat × Nat} (h : El w g p) (v : Value) (hne : g ≠ g') : El (w.setCell ⟨g', k, none⟩ v) g p := by
  unfold El
  rw [heap_setCell_other w ⟨g', k, none⟩ g v hne]
  exact h

theorem joinb (a x : Nat) (ha : a < 72057594037927936) (hx : x < 256) : bits .or .u64 (IntKind.u64.wrap ((a : Int) * 256)) (IntKind.u64.wrap (x : Int)) = ((a * 256 + x : Nat) : Int) := by
  rw [IntKind.wrap_u64, IntKind.wrap_u64, show ((a : Int) * 256) % 18446744073709551616 = ((a * 256 : Nat) : Int) by omega, show (x : Int) % 18446744073709551616 = (x : Int) by omega, u64_or_nat _ _ (by omega) (by omega), nat_join 8 (a * 256) x (by omega) hx]
set_option maxHeartbeats 1000000 in
set_option maxRecDepth 100000 in
theorem elemof (l : List Nat) (w : World) (hl : l.length = 16) (y : Byt l) :
    Calls Tryz.prog 74 #[.agg (arr l)] w fun e w' => e = .returned (.agg (ec (elt l))) ∧ Below w.heap.size w w' := by
  have HL := hid hl
  clear hl
  have A0 := (Ar.new w 107 l)
  have V1 := heap_alloc_new (w.alloc (.cells (arr l) 107)) (.cells (ec g0) 106)
  have V2 := heap_alloc_new ((w.alloc (.cells (arr l) 107)).alloc (.cells (ec g0) 106)) (.cells (ec g0) 106)
  simp only [World.size_alloc] at V1 V2
  have HA := hid ((A0.alloc (.cells (ec g0) 106)).alloc (.cells (ec g0) 106))
  have H1 := hid (show El _ _ _ from var_alloc (.cells (ec g0) 106) V1)
  have H2 := hid (show El _ _ _ from V2)
  have HB := hid (below_alloc3 w (.cells (arr l) 107) (.cells (ec g0) 106) (.cells (ec g0) 106))
  clear A0 V1 V2
  go_enter Tryz.func74, Tryz.ntmps74
  go_wp2_with fail
  go_loopw [4, 5] (fun i4 i5 ws => ∃ n : Nat, ∃ u : Value, n ≤ 8 ∧ i4 = u ∧ i5 = .int .i64 (n : Nat) ∧ Hid (Ar ws w.heap.size 107 l) ∧ Hid (El ws (w.heap.size + 1) g0) ∧ Hid (El ws (w.heap.size + 1 + 1) (hfN l 0 n, hfN l 8 n)) ∧ Hid (Below w.heap.size w ws)) (fun _ i5 _ => 8 - (intOf i5).toNat)
  case atStart => exact ⟨0, _, by omega, rfl, rfl, HA, H1, H2, HB⟩
  case round =>
    clear HA H1 H2 HB
    obtain ⟨n, u, hn, rfl, rfl, HA, H1, H2, HB⟩ := hrel
    by_cases hlt : n < 8
    · have c0 := H2.out.cell0
      have c1 := H2.out.cell1
      have d0 := HA.out.cell n (by rw [HL.out]; omega)
      have d1 := HA.out.cell (8 + n) (by rw [HL.out]; omega)
      obtain ⟨c0, f0⟩ := c0
      obtain ⟨c1, f1⟩ := c1
      simp only at c0 c1
      have n0 : (0 : Int) ≤ (n : Int) := by omega
      have n8 : (n : Int) < 8 := by omega
      have n16 : (n : Int) < 16 := by omega
      have b0 := gt_byt l y n
      have b1 := gt_byt l y (8 + n)
      have s0 := hf_small l y 0 n hlt
      have s1 := hf_small l y 8 n hlt
      have N0 := hid (show hfN l 0 (n + 1) = hfN l 0 n * 256 + gt l n by rw [hfN, Nat.zero_add])
      have N1 := hid (show hfN l 8 (n + 1) = hfN l 8 n * 256 + gt l (8 + n) from rfl)
      generalize hfN l 0 n = a at *
      generalize hfN l 8 n = b at *
      generalize gt l n = x at *
      have GZ := hid (rfl : gt l (8 + n) = gt l (8 + n))
      generalize hz : gt l (8 + n) = z at d1 b1 N1
      replace GZ := hid hz
      clear hz
      have e0 := joinb a x s0 b0
      have e1 := joinb b z s1 b1
      rw [← N0.out] at e0
      rw [← N1.out] at e1
      clear N0 N1
      have M0 := hid (rfl : hfN l 0 (n + 1) = hfN l 0 (n + 1))
      have M1 := hid (rfl : hfN l 8 (n + 1) = hfN l 8 (n + 1))
      generalize hm0 : hfN l 0 (n + 1) = m0 at e0
      generalize hm1 : hfN l 8 (n + 1) = m1 at e1
      replace M0 := hid hm0
      replace M1 := hid hm1
      clear hm0 hm1
      go_wp2_with fail
      refine wp_region_still_tail 9 (by kernel_rfl) (by kernel_rfl) ?_
      change wpStill _ _ (World.drew _) (fun a' => wpList _ _ _ _ a' (World.drew _)) _ _
      simp only [List.take_succ_cons, List.take_zero, List.drop_succ_cons, List.drop_zero]
      repeat still_step
      refine wpStill_nil ?_
      have K2 := hid (H2.out.set0 m0)
      have K1 := hid (H1.out.cfar (g' := w.heap.size + 1 + 1) (k := 0) (.int .u64 (m0 : Int)) (by omega))
      have KA := hid (HA.out.far (g' := w.heap.size + 1 + 1) (k := 0) (.int .u64 (m0 : Int)) (by omega))
      have KB := hid (HB.out.setCell (p := ⟨w.heap.size + 1 + 1, 0, none⟩) (by show w.heap.size ≤ w.heap.size + 1 + 1; omega) (.int .u64 (m0 : Int)))
      go_wp2_with fail
      clear c0 c1 f0 f1 d0 d1
      generalize wr.setCell ⟨w.heap.size + 1 + 1, 0, none⟩ (.int .u64 (m0 : Int)) = W at *
      obtain ⟨c1, f1⟩ := K2.out.cell1
      have d1 := KA.out.cell (8 + n) (by rw [HL.out]; omega)
      rw [GZ.out, show 8 + n = (8 + (n : Int)).toNat by omega] at d1
      simp only at c1
      have wn : IntKind.i64.wrap (8 + (n : Int)) = ((8 + n : Nat) : Int) := by rw [IntKind.wrap_i64]; omega
      have k0 : (0 : Int) ≤ 8 + (n : Int) := by omega
      have k1 : 8 + (n : Int) < 16 := by omega
      refine wp_region_still_tail 10 (by kernel_rfl) (by kernel_rfl) ?_
      change wpStill _ _ (World.drew _) (fun a' => wpList _ _ _ _ a' (World.drew _)) _ _
      simp only [List.take_succ_cons, List.take_zero, List.drop_succ_cons, List.drop_zero]
      repeat still_step
      refine wpStill_nil ?_
      have L2 := hid (K2.out.set1 m1)
      have L1 := hid (K1.out.cfar (g' := w.heap.size + 1 + 1) (k := 1) (.int .u64 (m1 : Int)) (by omega))
      have LA := hid (KA.out.far (g' := w.heap.size + 1 + 1) (k := 1) (.int .u64 (m1 : Int)) (by omega))
      have LB := hid (KB.out.setCell (p := ⟨w.heap.size + 1 + 1, 1, none⟩) (by show w.heap.size ≤ w.heap.size + 1 + 1; omega) (.int .u64 (m1 : Int)))
      go_wp2
      exact ⟨⟨n + 1, _, by omega, rfl, num_succ n, hid LA.out.drew.drew, hid L1.out.drew.drew, hid (by rw [M0.out, M1.out]; exact L2.out.drew.drew), hid LB.out.drew.drew⟩, by simp [intOf]; omega⟩
    · have hn8 : n = 8 := by omega
      subst hn8
      go_wp2_with (first | refine wpList_load_row rfl 106 _ rfl (w.heap.size + 1 + 1) rfl 106 (ec (elt l)) _ _ H2.out Tryz.underlying106 rfl (ec_size _) ?_ | refine wpList_store_row rfl 106 _ _ rfl (w.heap.size + 1) (ec (elt l)) rfl rfl 106 _ H1.out (ec_size _) rfl (ec_one _) ?_)
      exact bodyPost_ret (v := .agg (ec (elt l))) (results_cell_row rfl _ _ (w.heap.size + 1) 106 _ _ _ rfl (H1.out.row (q := elt l)) Tryz.underlying106 rfl (ec_size _)) rfl ⟨rfl, below_row HB.out (by omega) _⟩
end Go.Proofs.YtckgjghpfjinfakGreat.W

namespace Go.Proofs.YtckgjghpfjinfakGreat.W
open Go.ChangeShapes Go.WideShapes Go.ChangeAt Go.RowKit
open Go.Proofs.YtckgjghpfjinfakGreat.M

set_option maxHeartbeats 1000000 in
set_option maxRecDepth 100000 in
theorem counted (l : List Nat) (w : World) (hl : l.length = 16) (y : Byt l) :
    Calls Tryz.prog 77 #[.agg (arr l)] w fun e w' => e = .returned (.agg (arr (cu l))) ∧ Below w.heap.size w w' := by
  have HL := hid hl
  clear hl
  have A0 := Ar.new w 107 l
  have A1 := Ar.new (w.alloc (.cells (arr l) 107)) 107 (zs 16)
  simp only [World.size_alloc] at A1
  have H0 := hid (A0.alloc (.cells (arr (zs 16)) 107))
  have H1 := hid A1
  have HB := hid (below_alloc2 w (.cells (arr l) 107) (.cells (arr (zs 16)) 107))
  have Z := hid (blk_size (cu l) (cu_len l HL.out))
  clear A0 A1
  go_enter Tryz.func77, Tryz.ntmps77
  go_wp2_with fail
  go_loopw [3] (fun i3 ws => ∃ n : Nat, n ≤ 4 ∧ i3 = .int .i64 (15 - (n : Int)) ∧ Hid (∀ j, j < n → gt l (15 - j) = 255) ∧ Hid (Ar ws w.heap.size 107 (zd l n)) ∧ Hid (Ar ws (w.heap.size + 1) 107 (zs 16)) ∧ Hid (Below w.heap.size w ws)) (fun i3 _ => (intOf i3).toNat)
  case atStart => exact ⟨0, by omega, rfl, hid (fun j h => by omega), hid (by rw [zd_zero l HL.out]; exact H0.out), H1, HB⟩
  case round =>
    clear H0 H1 HB
    obtain ⟨n, hn, rfl, HF, H0, H1, HB⟩ := hrel
    by_cases hlt : n < 4
    · obtain ⟨t, ht⟩ : ∃ t : Nat, t + n = 15 := ⟨15 - n, by omega⟩
      have et : 15 - n = t := by omega
      rw [show 15 - (n : Int) = (t : Int) by omega]
      have c0 := H0.out.cell t (by rw [zd_len l HL.out n (by omega)]; omega)
      have f0 := H0.out.open t
      have ZG := zd_gt l HL.out n (by omega)
      rw [et] at ZG
      rw [ZG] at c0
      have b0 := gt_byt l y t
      have t0 : (0 : Int) ≤ (t : Int) := by omega
      have t1 : (t : Int) < 16 := by omega
      have t2 : (12 : Int) ≤ (t : Int) := by omega
      by_cases h255 : gt l t = 255
      · have S := H0.out.stored t 0
        have ZS := zd_set l HL.out n hlt
        rw [et] at ZS
        rw [ZS] at S
        have SB := HB.out.setCell (p := ⟨w.heap.size, t, none⟩) (Nat.le_refl _) (.int .u8 ((0 : Nat) : Int))
        have SR := H1.out.far (g' := w.heap.size) (k := t) (.int .u8 ((0 : Nat) : Int)) (by omega)
        have HN := hid (show ∀ j, j < n + 1 → gt l (15 - j) = 255 from fun j hj => by
          by_cases e : j = n
          · subst e; rw [et]; exact h255
          · exact HF.out j (by omega))
        rw [h255] at c0
        rw [show ((0 : Nat) : Int) = 0 from rfl] at S SB SR
        replace S := hid S
        replace SB := hid SB
        replace SR := hid SR
        clear ZG ZS
        go_wp2_with fail
        exact ⟨⟨n + 1, by omega, by congr 1; omega, HN, S, SR, SB⟩, by simp [intOf]; omega⟩
      · have CS := cu_stop l HL.out y n hlt HF.out (by rw [et]; exact h255)
        rw [et] at CS
        have S := H0.out.stored t (gt l t + 1)
        rw [CS] at S
        have SB := HB.out.setCell (p := ⟨w.heap.size, t, none⟩) (Nat.le_refl _) (.int .u8 ((gt l t + 1 : Nat) : Int))
        have SR := H1.out.far (g' := w.heap.size) (k := t) (.int .u8 ((gt l t + 1 : Nat) : Int)) (by omega)
        clear ZG CS HF
        generalize gt l t = x at *
        have x1 : x < 255 := by omega
        have wx : IntKind.u8.wrap ((x : Int) + 1) = (x : Int) + 1 := by rw [IntKind.wrap_u8']; omega
        have nz : ((x : Int) + 1 != 0) = true := by rw [bne_iff_ne]; omega
        rw [show ((x + 1 : Nat) : Int) = (x : Int) + 1 by omega] at S SB SR
        replace S := hid S
        replace SB := hid SB
        replace SR := hid SR
        go_wp2_with (first | refine wpList_load_row rfl 107 _ rfl w.heap.size rfl 107 (arr (cu l)) _ _ S.out Tryz.underlying107 rfl Z.out ?_ | refine wpList_store_row rfl 107 _ _ rfl (w.heap.size + 1) (arr (cu l)) rfl rfl 107 _ SR.out Z.out (by rw [arr_size, arr_size, cu_len l HL.out]; rfl) (arr_one _) ?_)
        exact bodyPost_ret (v := .agg (arr (cu l))) (results_cell_row rfl _ _ (w.heap.size + 1) 107 _ _ _ rfl (SR.out.row (l' := cu l)) Tryz.underlying107 rfl Z.out) rfl ⟨rfl, below_row SB.out (by omega) _⟩
    · have hn4 : n = 4 := by omega
      subst hn4
      have CA := cu_all l HL.out HF.out
      rw [CA] at H0
      go_wp2_with (first | refine wpList_load_row rfl 107 _ rfl w.heap.size rfl 107 (arr (cu l)) _ _ H0.out Tryz.underlying107 rfl Z.out ?_ | refine wpList_store_row rfl 107 _ _ rfl (w.heap.size + 1) (arr (cu l)) rfl rfl 107 _ H1.out Z.out (by rw [arr_size, arr_size, cu_len l HL.out]; rfl) (arr_one _) ?_)
      exact bodyPost_ret (v := .agg (arr (cu l))) (results_cell_row rfl _ _ (w.heap.size + 1) 107 _ _ _ rfl (H1.out.row (l' := cu l)) Tryz.underlying107 rfl Z.out) rfl ⟨rfl, below_row HB.out (by omega) _⟩
end Go.Proofs.YtckgjghpfjinfakGreat.W

namespace Go.Proofs.YtckgjghpfjinfakGreat.M
open Go.RowKit

def mki (F : Nat → Nat) (b : List Nat) (i : Nat) : List Nat := if i = 0 then zs 16 else enc F (cuN b ((i - 1) / 16))
theorem mki_succ (F : Nat → Nat) (b : List Nat) (i : Nat) : mki F b (i + 1) = enc F (cuN b (i / 16)) := by rw [mki, if_neg (by omega), Nat.add_sub_cancel]
theorem mki_same (F : Nat → Nat) (b : List Nat) (i : Nat) (h : ¬ i % 16 = 0) : mki F b i = mki F b (i + 1) := by rw [mki_succ, mki, if_neg (by omega), show (i - 1) / 16 = i / 16 by omega]
theorem mki_len (F : Nat → Nat) (b : List Nat) (hb : b.length = 16) (i : Nat) : (mki F b i).length = 16 := by
  unfold mki
  split
  · exact zs_len 16
  · exact stt_len F _ (cuN_len b hb _) 10
def cti (b : List Nat) (i : Nat) : List Nat := cuN b ((i + 15) / 16)
theorem cti_zero (b : List Nat) : cti b 0 = b := rfl
theorem cti_new (b : List Nat) (i : Nat) (h : i % 16 = 0) : cti b i = cuN b (i / 16) ∧ cu (cti b i) = cti b (i + 1) := by
  have e1 : (i + 15) / 16 = i / 16 := by omega
  have e2 : (i + 1 + 15) / 16 = i / 16 + 1 := by omega
  refine ⟨by rw [cti, e1], ?_⟩
  rw [cti, cti, e1, e2]
  rfl
theorem cti_same (b : List Nat) (i : Nat) (h : ¬ i % 16 = 0) : cti b i = cti b (i + 1) := by rw [cti, cti, show (i + 1 + 15) / 16 = (i + 15) / 16 by omega]
theorem cti_len (b : List Nat) (hb : b.length = 16) (i : Nat) : (cti b i).length = 16 := cuN_len b hb _
theorem cti_byt (b : List Nat) (y : Byt b) (i : Nat) : Byt (cti b i) := cuN_byt b y _
theorem strm_next (F : Nat → Nat) (b d : List Nat) (i : Nat) (hi : i < d.length) : gt (strm F b d) i = gt d i ^^^ gt (mki F b (i + 1)) (i % 16) := by
  rw [strm_gt _ _ _ _ hi, mki_succ]
  rfl
end Go.Proofs.YtckgjghpfjinfakGreat.M

namespace Go.Proofs.YtckgjghpfjinfakGreat.W
open Go.ChangeShapes Go.WideShapes Go.ChangeAt Go.RowKit
open Go.Proofs.YtckgjghpfjinfakGreat.M

theorem own_madeAt (w0 : World) (base g n : Nat) (h : w0.ownsRow base 5 1 (.slice (some ⟨g, 0, none⟩) n n) n (madeCells (Value.int .u8 0).cells (n * 1)).toList) :
    Own w0 base (.slice (some ⟨g, 0, none⟩) n n) (List.replicate n 0) := by
  have e : (madeCells (Value.int .u8 0).cells (n * 1)).toList = (List.replicate n 0).map bv := by
    rw [List.map_replicate, Nat.mul_one]; exact toList_madeCells_one _ _
  rw [e] at h
  unfold Own
  rw [List.length_replicate]
  exact h
theorem own_rowOff {w : World} {base g g' cap n : Nat} {l : List Nat} (h : Own w base (.slice (some ⟨g, 0, none⟩) n cap) l) (cs : Array Value) (hne : g ≠ g') : Own (w.setRow g' cs) base (.slice (some ⟨g, 0, none⟩) n cap) l := by
  refine ⟨h.1, ?_⟩
  rcases h.2 with hn | ⟨h1, cap', cur, e, hbb, hgg, rest⟩
  · exact .inl hn
  · cases e
    exact .inr ⟨g, _, cur, rfl, hbb, by rw [setRow_other w g' g cs hne]; exact hgg, rest⟩
theorem ar_old {w w' : World} {B g : Nat} {T : TypeId} {l : List Nat} (h : Ar w g T l) (hb : Below B w w') (hg : g < B) : Ar w' g T l := h.keep hb hg
set_option maxHeartbeats 2000000 in
set_option maxRecDepth 100000 in
theorem istream (gc : Nat) (b : List Nat) (vd : Value) (d : List Nat) (F : Nat → Nat) (w : World) (hC : Ar w gc 130 (cph F 176)) (hF : ∀ j, F j < 256) (hb : b.length = 16) (yb : Byt b) (hd : Rd w vd d) (yd : Byt d) (nd : d.length ≤ 1048576) :
    Calls Tryz.prog 76 #[.pointer (some ⟨gc, 0, none⟩), .agg (arr b), vd] w fun e w' => e = .returned (.slice (some ⟨w.heap.size + 1, 0, none⟩) d.length d.length) ∧ Own w' w.heap.size (.slice (some ⟨w.heap.size + 1, 0, none⟩) d.length d.length) (strm F b d) ∧ Below w.heap.size w w' := by
  obtain ⟨i0, hi, hz0, hz1, hz2⟩ := info_parts info8
  obtain ⟨pd, capd, rfl, -, -, hcd⟩ := hd.parts
  have HC := hid hC
  have HG := hid hC.lt
  have HF := hid hF
  have NB := hid hb
  have HCD := hid hcd
  have A0 := Ar.new w 107 b
  have B0 := below_alloc1 w (.cells (arr b) 107)
  clear hC hF hb hcd hd
  go_enter Tryz.func76, Tryz.ntmps76
  go_wp2_with (at_make; refine wpList_make_full _ rfl _ _ 25 rfl w.heap.size 5 i0 (.int .u8 0) 1 Tryz.underlying25 hi hz0 hz1 .i64 .i64 _ _ d.length rfl rfl rfl rfl (by rw [hz2]; omega) (by unfold maxLen; omega) (by simp) ?_; intro w0 hown0 hgrow0)
  rw [World.size_alloc] at hown0
  have O0 := own_madeAt w0 w.heap.size (w.heap.size + 1) d.length hown0
  have go1 := World.ownsRow.lt hown0 (w.heap.size + 1) rfl
  have HO := hid (O0.below (below_alloc1 w0 (.cells (arr (zs 16)) 107)))
  have HN := hid (Ar.alloc (show Ar w0 w.heap.size 107 b from var_grown hgrow0 A0 (by simp)) (.cells (arr (zs 16)) 107))
  have HM := hid (Ar.new w0 107 (zs 16))
  have HB := hid ((B0.grown hgrow0 (by simp) (fun k e => by cases e)).alloc (by omega) (.cells (arr (zs 16)) 107))
  have HZ := hid go1.2
  clear hown0 hgrow0 O0 A0 B0 go1 hi hz0 hz1 hz2
  generalize w0.heap.size = gm at *
  have SL := hid (strm_len F b d)
  go_loopw [9, 10, 16] (fun a9 a10 a16 ws => ∃ i : Nat, ∃ u v : Value, i ≤ d.length ∧ a9 = u ∧ a10 = v ∧ a16 = .int .i64 (i : Nat) ∧ Hid (Own ws w.heap.size (.slice (some ⟨w.heap.size + 1, 0, none⟩) d.length d.length) (front (strm F b d) i)) ∧ Hid (Ar ws w.heap.size 107 (cti b i)) ∧ Hid (Ar ws gm 107 (mki F b i)) ∧ Hid (Below w.heap.size w ws)) (fun _ _ a16 _ => d.length - (intOf a16).toNat)
  case atStart => exact ⟨0, _, _, by omega, rfl, rfl, rfl, hid (by rw [front_zero, SL.out]; exact HO.out), HN, HM, HB⟩
  case round =>
    clear HO HN HM HB
    obtain ⟨i, u, v, hi, rfl, rfl, rfl, HO, HN, HM, HB⟩ := hrel
    by_cases hlt : i < d.length
    · obtain ⟨bd, od, rfl, cd⟩ := HCD.out i hlt
      replace cd := cell_kept HB.out cd
      unfold bv at cd
      rw [← gt_eq d i hlt] at cd
      have i0 : (0 : Int) ≤ (i : Int) := by omega
      have i1 : (i : Int) < (d.length : Int) := by omega
      have hx := gt_byt d yd i
      have ML := hid (mki_len F b NB.out (i + 1))
      have MY := hid (show Byt (mki F b (i + 1)) by rw [mki_succ]; exact stt_byt F HF.out _ (cuN_byt b yb _) 10)
      have SN := hid (strm_next F b d i hlt)
      have FS := hid (front_set (strm F b d) i (by rw [SL.out]; exact hlt))
      have FL := hid (front_len (strm F b d) i (by rw [SL.out]; omega))
      have GE := hid (gt_eq (strm F b d) i (by rw [SL.out]; exact hlt))
      have CL := hid (cti_len b NB.out i)
      have CL2 := hid (cti_len b NB.out (i + 1))
      have CY := hid (cti_byt b yb i)
      have ML0 := hid (mki_len F b NB.out i)
      by_cases h16 : i % 16 = 0
      · obtain ⟨CT1, CT2⟩ := cti_new b i h16
        replace CT1 := hid CT1
        replace CT2 := hid CT2
        have MS := hid (mki_succ F b i)
        have c16 : ((i : Int) % 16 == 0) = true := by rw [beq_iff_eq]; omega
        replace h16 := hid h16
        have HCr := hid (HC.out.keep HB.out HG.out)
        have ZC := hid (blk_size (cti b i) CL.out)
        have ZM := hid (blk_size (mki F b (i + 1)) ML.out)
        have ZN := hid (blk_size (cti b (i + 1)) CL2.out)
        go_wp2_with (refine wpList_load_row rfl 107 _ rfl (w.heap.size) rfl 107 (arr (cti b i)) _ _ HN.out Tryz.underlying107 rfl ZC.out ?_)
        refine (encr (cti b i) F gc _ CL.out CY.out HF.out HCr.out).mono ?_
        rintro e w1 ⟨rfl, hB1⟩
        rw [CT1.out, ← MS.out]
        have K1 := hid (HM.out.below hB1)
        have N1 := hid ((HN.out.below hB1).rowFar (g' := gm) (arr (mki F b (i + 1))) (by have := HZ.out; omega))
        have M1 := hid (K1.out.row (l' := mki F b (i + 1)))
        have O1 := hid (own_rowOff (HO.out.below hB1) (g' := gm) (arr (mki F b (i + 1))) (by have := HZ.out; omega))
        have B1 := hid (below_row (HB.out.trans (hB1.mono HB.out.size)) (g := gm) (by have := HZ.out; omega) (arr (mki F b (i + 1))))
        clear HO HN HM HB hB1
        go_wp2_with (first | refine wpList_store_row rfl 107 _ _ rfl (gm) (arr (mki F b (i + 1))) rfl rfl 107 _ K1.out ZM.out (by rw [arr_size, arr_size, ML0.out, ML.out]) (arr_one _) ?_ | refine wpList_load_row rfl 107 _ rfl (w.heap.size) rfl 107 (arr (cti b i)) _ _ N1.out Tryz.underlying107 rfl ZC.out ?_)
        refine (counted (cti b i) _ CL.out CY.out).mono ?_
        rintro e w2 ⟨rfl, hB2⟩
        rw [CT2.out]
        have K2 := hid (N1.out.below hB2)
        have N2 := hid (K2.out.row (l' := cti b (i + 1)))
        have M2 := hid ((M1.out.below hB2).rowFar (g' := w.heap.size) (arr (cti b (i + 1))) (by have := HZ.out; omega))
        have O2 := hid (own_rowOff (O1.out.below hB2) (g' := w.heap.size) (arr (cti b (i + 1))) (by omega))
        have B2 := hid (below_row (B1.out.trans (hB2.mono B1.out.size)) (g := w.heap.size) (Nat.le_refl _) (arr (cti b (i + 1))))
        clear N1 M1 O1 B1 hB2 K1
        have xm := M2.out.cell (i % 16) (by rw [ML.out]; omega)
        have ym := gt_byt _ MY.out (i % 16)
        have co : ∃ u, (w2.setRow w.heap.size (arr (cti b (i + 1)))).cell? ⟨w.heap.size + 1, i, none⟩ = some u := ⟨_, O2.out.cell (FL.out.trans SL.out) i (by rw [FL.out, SL.out]; exact hlt)⟩
        obtain ⟨u0, co⟩ := co
        have fo := O2.out.open (FL.out.trans SL.out) i
        have SO := O2.out.stored (FL.out.trans SL.out) i (gt (strm F b d) i)
        rw [GE.out, FS.out, ← GE.out, SN.out] at SO
        have E := xor8' _ _ hx ym
        have SB := B2.out.setCell (p := ⟨w.heap.size + 1, i, none⟩) (by show w.heap.size ≤ w.heap.size + 1; omega) (bv (gt d i ^^^ gt (mki F b (i + 1)) (i % 16)))
        have SNN := N2.out.far (g' := w.heap.size + 1) (k := i) (bv (gt d i ^^^ gt (mki F b (i + 1)) (i % 16))) (by omega)
        have SM := M2.out.far (g' := w.heap.size + 1) (k := i) (bv (gt d i ^^^ gt (mki F b (i + 1)) (i % 16))) (by have := HZ.out; omega)
        replace SO := SO.1
        unfold bv at SO SB SNN SM
        generalize gt d i ^^^ gt (mki F b (i + 1)) (i % 16) = z at *
        generalize gt (mki F b (i + 1)) (i % 16) = m1 at *
        generalize gt d i = x1 at *
        replace SO := hid SO
        replace SB := hid SB
        replace SNN := hid SNN
        replace SM := hid SM
        have r0 : (0 : Int) ≤ (i : Int) % 16 := by omega
        have r1 : (i : Int) % 16 < 16 := by omega
        clear O2 N2 M2 B2
        go_wp2_with (refine wpList_store_row rfl 107 _ _ rfl (w.heap.size) (arr (cti b (i + 1))) rfl rfl 107 _ K2.out ZN.out (by rw [arr_size, arr_size, CL.out, CL2.out]) (arr_one _) ?_; generalize w2.setRow w.heap.size (arr (cti b (i + 1))) = W2 at *)
        exact ⟨⟨i + 1, _, _, by omega, rfl, rfl, num_succ i, SO, SNN, SM, SB⟩, by simp [intOf]; omega⟩
      · have c16 : ((i : Int) % 16 == 0) = false := by rw [beq_eq_false_iff_ne]; omega
        rw [mki_same F b i h16] at HM
        rw [cti_same b i h16] at HN
        have xm := HM.out.cell (i % 16) (by rw [ML.out]; omega)
        have ym := gt_byt _ MY.out (i % 16)
        have co : ∃ u, wr.cell? ⟨w.heap.size + 1, i, none⟩ = some u := ⟨_, HO.out.cell (FL.out.trans SL.out) i (by rw [FL.out, SL.out]; exact hlt)⟩
        obtain ⟨u0, co⟩ := co
        have fo := HO.out.open (FL.out.trans SL.out) i
        have SO := HO.out.stored (FL.out.trans SL.out) i (gt (strm F b d) i)
        rw [GE.out, FS.out, ← GE.out, SN.out] at SO
        have E := xor8' _ _ hx ym
        have SB := HB.out.setCell (p := ⟨w.heap.size + 1, i, none⟩) (by show w.heap.size ≤ w.heap.size + 1; omega) (bv (gt d i ^^^ gt (mki F b (i + 1)) (i % 16)))
        have SNN := HN.out.far (g' := w.heap.size + 1) (k := i) (bv (gt d i ^^^ gt (mki F b (i + 1)) (i % 16))) (by omega)
        have SM := HM.out.far (g' := w.heap.size + 1) (k := i) (bv (gt d i ^^^ gt (mki F b (i + 1)) (i % 16))) (by have := HZ.out; omega)
        replace SO := SO.1
        unfold bv at SO SB SNN SM
        generalize gt d i ^^^ gt (mki F b (i + 1)) (i % 16) = z at *
        generalize gt (mki F b (i + 1)) (i % 16) = m1 at *
        generalize gt d i = x1 at *
        replace SO := hid SO
        replace SB := hid SB
        replace SNN := hid SNN
        replace SM := hid SM
        have r0 : (0 : Int) ≤ (i : Int) % 16 := by omega
        have r1 : (i : Int) % 16 < 16 := by omega
        clear HO HN HM HB
        go_wp2
        exact ⟨⟨i + 1, _, _, by omega, rfl, rfl, num_succ i, SO, SNN, SM, SB⟩, by simp [intOf]; omega⟩
    · have hk8 : i = d.length := by omega
      subst hk8
      have i1 : ¬ ((d.length : Nat) : Int) < (d.length : Int) := by omega
      have FE := front_end (strm F b d)
      rw [SL.out] at FE
      rw [FE] at HO
      go_wp2
      go_ret
      exact ⟨rfl, HO.out, HB.out⟩
end Go.Proofs.YtckgjghpfjinfakGreat.W
