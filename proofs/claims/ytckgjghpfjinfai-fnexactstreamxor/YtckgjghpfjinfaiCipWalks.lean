/-
  What a key needs for all blocks: what the program's cipherOf answers.
-/
import Derived.Test.YtckgjghpfjinfaiCipF
namespace Go.Proofs.Ytckgjghpfjinfai.W
open Go.ChangeShapes Go.WideShapes Go.ChangeAt Go.RowKit
open Go.Proofs.Ytckgjghpfjinfai.M

theorem key_size (l : List Nat) (hl : l.length = 16) : (Try.prog.info? 62).map (·.size) = some (arr l).size := by rw [arr_size, hl]; kernel_rfl
/-- Where round key d lies. -/
theorem idx_rk (g o d : Nat) (hd : d < 11) (w : World) : (Instr.indexAt 108 (.pointer (some ⟨g, o, none⟩)) (.int .i64 (d : Int))).run Try.prog w = .ok (.pointer (some ⟨g, o + 16 * d, none⟩)) w := by
  have hs : ∀ w : World, (sizeOf (Try.prog.elem 108)).run Try.prog w = .ok 16 w := fun _ => by kernel_rfl
  have hl : Try.prog.arrayLen 108 = 11 := by kernel_rfl
  rw [run_indexAt_array (P := Try.prog) w 108 _ .i64 (d : Int) (by kernel_rfl), hl, if_pos (by omega), hs]
  simp [Result.andThen, Addr.add_lit, Nat.mul_comm]
theorem cut_rk (g o e : Nat) (he : e < 16) (w : World) : (Instr.sliceAt 63 (.pointer (some ⟨g, o, none⟩)) (some (.int .i64 (e : Int))) none none).run Try.prog w = .ok (.slice (some ⟨g, o + e, none⟩) (16 - e) (16 - e)) w := by
  have hs : ∀ w : World, (sizeOf (Try.prog.elem 63)).run Try.prog w = .ok 1 w := fun _ => by kernel_rfl
  have hl : Try.prog.arrayLen 63 = 16 := by kernel_rfl
  rw [run_sliceAt_array_l (P := Try.prog) w 63 _ (by kernel_rfl) .i64 (e : Int) (by omega) (by rw [hl]; omega), hs]
  have e3 : ¬ (16 = e) := by omega
  simp [Result.andThen, slicedAt, e3, Addr.add_lit, hl]
theorem cut_word (g : Nat) (w : World) : (Instr.sliceAt 111 (.pointer (some ⟨g, 0, none⟩)) none none none).run Try.prog w = .ok (.slice (some ⟨g, 0, none⟩) 4 4) w := by
  have hs : ∀ w : World, (sizeOf (Try.prog.elem 111)).run Try.prog w = .ok 1 w := fun _ => by kernel_rfl
  have hl : Try.prog.arrayLen 111 = 4 := by kernel_rfl
  rw [run_sliceAt_array_all (P := Try.prog) w 111 _ (by kernel_rfl), hs]
  simp [Result.andThen, slicedAt, Addr.add_lit, hl]

set_option maxHeartbeats 2000000 in
set_option maxRecDepth 100000 in
theorem cipof (key : List Nat) (w : World) (hk : key.length = 16) (y : Byt key) :
    Calls Try.prog 49 #[.agg (arr key)] w fun e w' => ∃ g, e = .returned (.pointer (some ⟨g, 0, none⟩)) ∧ Ar w' g 110 (cph (kf key) 176) ∧ w.heap.size ≤ g ∧ Below w.heap.size w w' := by
  have HK := hid hk
  have K0 := Ar.new w 62 key
  have B0 := below_alloc1 w (.cells (arr key) 62)
  clear hk
  go_enter Try.func49, Try.ntmps49
  go_wp2_with fail
  refine (mkbox _).mono ?_
  rintro e wm ⟨rfl, hM⟩
  have K1 := K0.below hM
  have B1 := B0.trans (hM.mono (by simp))
  clear K0 B0 hM
  go_wp2_with (refine build_eq rfl 110 _ rfl (arr (boxL ++ zs 176)) (cip_eq (by simp [Act.eval])) ?_)
  have C1 := Ar.new wm 110 (boxL ++ zs 176)
  have K2 := K1.alloc (.cells (arr (boxL ++ zs 176)) 110)
  have B2 := B1.alloc B1.size (.cells (arr (boxL ++ zs 176)) 110)
  have hgz := B1.size
  clear K1 B1
  generalize wm.alloc (.cells (arr (boxL ++ zs 176)) 110) = W at *
  rw [cip_start (kf key)] at C1
  have KR := hid (K2.range 0 16)
  have KE := hid (show sub key 0 16 = key by unfold sub; rw [List.drop_zero, List.take_of_length_le (by rw [HK.out]; omega)])
  have KS := hid (key_size key HK.out)
  have hX := hid (fun a (ha : a < 256) => show W.cell? ⟨wm.heap.size, a, none⟩ = some (.int .u8 (sbx a : Nat)) by rw [C1.cell a (by rw [cph_len]; omega), cph_box _ _ _ ha])
  generalize wm.heap.size = g at *
  refine wp_region_held_drew (S := fun w' => Below W.heap.size W w') (by kernel_rfl) ((Below.refl _ _).drew) (fun hH => ?_)
  refine wpAnyH_take (i := 0) (v := .agg (arr key)) (by simp only [List.getElem?_toArray, List.getElem?_cons_zero]; rfl) (by kernel_rfl) (by kernel_rfl) (by kernel_rfl) (by intro _ _ _ h; exact h) (yieldsIf_load_mid (by rfl) _ _ rfl w.heap.size 0 rfl (key.map bv) _ (fun w hS => by have q := KR.out; rw [KE.out] at q; exact rangeAt.below q hS) Try.underlying62 rfl (by rw [List.length_map, ← arr_size]; exact KS.out)) hH ?_
  simp only [Act.put, List.setIfInBounds_toArray, List.set_cons_zero, List.set_cons_succ]
  refine wpAnyH_take (i := 1) (v := .pointer (some ⟨g, 0, none⟩)) (by simp only [List.getElem?_toArray, List.getElem?_cons_succ, List.getElem?_cons_zero]; rfl) (by kernel_rfl) (by kernel_rfl) (by kernel_rfl) (by intro _ _ _ h; exact h) (Or.inl ⟨by rfl, fun w _ => by go_simp⟩) hH ?_
  simp only [Act.put, List.setIfInBounds_toArray, List.set_cons_zero, List.set_cons_succ]
  refine wpAnyH_take (i := 2) (v := .pointer (some ⟨g, 0, none⟩)) (by simp only [List.getElem?_toArray, List.getElem?_cons_succ, List.getElem?_cons_zero]; rfl) (by kernel_rfl) (by kernel_rfl) (by kernel_rfl) (by intro _ _ _ h; exact h) (Or.inl ⟨by rfl, fun w _ => by go_simp⟩) hH ?_
  simp only [Act.put, List.setIfInBounds_toArray, List.set_cons_zero, List.set_cons_succ]
  refine wpAnyH_take (i := 3) (v := .pointer (some ⟨g, 0, none⟩)) (by simp only [List.getElem?_toArray, List.getElem?_cons_succ, List.getElem?_cons_zero]; rfl) (by kernel_rfl) (by kernel_rfl) (by kernel_rfl) (by intro _ _ _ h; exact h) (Or.inl ⟨by rfl, fun w _ => by go_simp⟩) hH ?_
  simp only [Act.put, List.setIfInBounds_toArray, List.set_cons_zero, List.set_cons_succ]
  refine wpAnyH_take (i := 5) (v := .int .i64 0) (by simp only [List.getElem?_toArray, List.getElem?_cons_succ, List.getElem?_cons_zero]; rfl) (by kernel_rfl) (by kernel_rfl) (by kernel_rfl) (by intro _ _ _ h; exact h) (Or.inl ⟨by rfl, fun w _ => by go_simp⟩) hH ?_
  simp only [Act.put, List.setIfInBounds_toArray, List.set_cons_zero, List.set_cons_succ]
  generalize W.drew = x1 at hH ⊢
  refine wpAnyH_ready (rs := [4]) (by kernel_rfl) (by simp) ?_
  refine AllReadyH.cons (by simp only [List.getElem?_toArray, List.getElem?_cons_succ, List.getElem?_cons_zero]; rfl) (fun K hK => ?_) AllReadyH.nil
  go_simp
  refine (expk key g _ HK.out y (fun a ha => cell_kept hH (hX.out a ha))).mono ?_
  rintro e x2 ⟨rfl, hM⟩
  have hH2 := hH.trans (hM.mono hH.size)
  refine hK.out _ _ hH2 (fun _ => ?_)
  clear hK K
  have C2 := C1.below hH2
  have B3 := B2.trans (hH2.mono B2.size)
  clear C1 B2 K2 KR KE KS hX hH hM hH2
  generalize hF : kf key = F at *
  have HF := hid hF
  clear hF
  refine wpAnyH_done (by kernel_rfl) ?_ _
  go_wp2_with fail
  go_loopw [4, 5, 14] (fun s4 s5 s14 ws => ∃ n : Nat, ∃ u4 u5 : Value, n ≤ 44 ∧ s14 = .int .i64 n ∧ s4 = u4 ∧ s5 = u5 ∧ Ar ws g 110 (cph F (4 * n)) ∧ Below w.heap.size w ws) (fun _ _ s14 _ => 44 - (intOf s14).toNat)
  case atStart => exact ⟨0, _, _, by omega, rfl, rfl, rfl, C2, B3⟩
  case round =>
    obtain ⟨n, v4, v5, hn, rfl, rfl, rfl, C, B⟩ := hrel
    clear C2 B3
    by_cases hlt : n < 44
    · have n0 : (0 : Int) ≤ (n : Int) := by omega
      have n1 : (n : Int) < 44 := by omega
      obtain ⟨d, hd⟩ : ∃ d, d = n / 4 := ⟨_, rfl⟩
      obtain ⟨r, hr⟩ : ∃ r, r = n % 4 := ⟨_, rfl⟩
      obtain ⟨e, he⟩ : ∃ e, e = 4 * r := ⟨_, rfl⟩
      have IX := idx_all (rowTo 176 F 176) n hlt
      have sl := sub_len (rowTo 176 F 176) (4 * n) 4 (by rw [rowTo_len]; omega)
      have Z4 := hid (word_size (sub (rowTo 176 F 176) (4 * n) 4) sl)
      have T1 := Ar.new wr 111 (sub (rowTo 176 F 176) (4 * n) 4)
      have C1 := C.alloc (.cells (arr (sub (rowTo 176 F 176) (4 * n) 4)) 111)
      have B1 := B.alloc B.size (.cells (arr (sub (rowTo 176 F 176) (4 * n) 4)) 111)
      have hgw := C.lt
      have I1 := idx_rk g 256 d (by omega)
      have I2 := cut_rk g (256 + 16 * d) e (by omega)
      have I3 := cut_word wr.heap.size
      rw [show 256 + 16 * d + e = 256 + 4 * n by omega] at I2
      have e1 : (n : Int) / 4 = (d : Int) := by omega
      have e2 : (n : Int).tdiv 4 = (d : Int) := by rw [Int.tdiv_eq_ediv_of_nonneg (by omega)]; omega
      have e3 : (n : Int) % 4 = (r : Int) := by omega
      have e4 : (n : Int).tmod 4 = (r : Int) := by rw [Int.tmod_eq_emod_of_nonneg (by omega)]; omega
      have e5 : 4 * (r : Int) = (e : Int) := by omega
      have v1 : IntKind.i64.wrap (d : Int) = (d : Int) := by rw [IntKind.wrap_i64]; omega
      have v2 : IntKind.i64.wrap (r : Int) = (r : Int) := by rw [IntKind.wrap_i64]; omega
      have v3 : IntKind.i64.wrap (e : Int) = (e : Int) := by rw [IntKind.wrap_i64]; omega
      have SL := hid sl
      have CC := hid (cph_copy F n hlt)
      have he2 : e ≤ 12 := by omega
      clear C B sl hd hr he
      go_wp2_with (refine wpList_store_row rfl 111 _ _ rfl wr.heap.size (arr (sub (rowTo 176 F 176) (4 * n) 4)) rfl rfl 111 _ (heap_alloc_new wr _) Z4.out (by rw [arr_size, SL.out]; rfl) (arr_one _) ?_)
      rw [World.setRow_alloc_new]
      generalize wr.alloc (.cells (arr (sub (rowTo 176 F 176) (4 * n) 4)) 111) = y1 at *
      generalize wr.heap.size = gw at *
      obtain ⟨y2, hcp, C2, B2⟩ : ∃ y2, (Builtin.copy_ #[22, 22] 3 #[.slice (some ⟨g, 256 + 4 * n, none⟩) (16 - e) (16 - e), .slice (some ⟨gw, 0, none⟩) 4 4]).run Try.prog y1.drew = .ok (.int .i64 4) y2 ∧ Ar y2 g 110 (cph F (4 * n + 4)) ∧ Below w.heap.size w y2 := by
        have hl : ((sub (rowTo 176 F 176) (4 * n) 4).map bv).length = 4 := by rw [List.length_map, SL.out]
        have hr := run_copy_row (P := Try.prog) y1.drew 22 22 3 5 g (256 + 4 * n) (16 - e) (16 - e) ⟨gw, 0, none⟩ 4 4 _ 110 ((sub (rowTo 176 F 176) (4 * n) 4).map bv) Try.underlying22 (by kernel_rfl) C1.drew (by rw [hl]; show 4 = min 4 (16 - e); omega)
          (fun j u hj => by
            have q := T1.drew.range 0 4 j u (by unfold sub; rw [List.drop_zero, List.take_of_length_le (by have := SL.out; unfold sub at this; rw [this]; omega)]; exact hj)
            rw [Addr.add_lit]
            exact q)
          (by rw [hl, arr_size, cph_len]; omega) (by intro u hu; obtain ⟨x, _, rfl⟩ := List.mem_map.1 hu; rfl)
        rw [hl, CC.out] at hr
        exact ⟨_, hr, C1.drew.row, below_row B1.drew hgz _⟩
      clear C1 B1 T1 CC
      refine wp_region_still_tail 11 (by kernel_rfl) (by kernel_rfl) ?_
      change wpStill _ _ (World.drew _) (fun a' => wpList _ _ _ _ a' (World.drew _)) _ _
      simp only [List.take_succ_cons, List.take_zero, List.drop_succ_cons, List.drop_zero]
      repeat still_step
      refine wpStill_nil ?_
      go_wp2_with fail
      exact ⟨⟨n + 1, _, _, hlt, num_succ n, rfl, rfl, by rw [show 4 * (n + 1) = 4 * n + 4 by omega]; exact C2, B2⟩, meas 44 n hlt⟩
    · have hn44 : n = 44 := by omega
      subst hn44
      rw [show 4 * 44 = 176 from rfl, ← HF.out] at C
      go_wp2
      go_ret
      exact ⟨g, rfl, C, hgz, B⟩
end Go.Proofs.Ytckgjghpfjinfai.W
