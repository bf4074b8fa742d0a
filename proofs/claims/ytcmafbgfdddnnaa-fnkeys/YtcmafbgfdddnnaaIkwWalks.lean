/-
  The words of a key: what the program's KeyWords answers.
-/
import Derived.Test.YtcmafbgfdddnnaaWds
import Derived.Test.YtcmafbgfdddnnaaExpWalks
import Derived.Test.YtcmafbgfdddnnaaMkWalks
import Derived.Test.YtcmafbgfdddnnaaRangeM
import Derived.Deep.AppendLies
namespace Go.Proofs.Ytcmafbgfdddnnaa.W
open Go.ChangeShapes Go.WideShapes Go.ChangeAt Go.RowKit
open Go.Proofs.Ytcmafbgfdddnnaa.M

theorem iskeyk (a : Option Addr) (n cap : Nat) (w : World) :
    Calls Try.prog 69 #[.slice a n cap] w fun e w' => e = .returned (.bool ((n : Int) == 16)) ∧ w' = w := by
  go_enter Try.func69, Try.ntmps69
  go_wp2
  go_ret
  exact ⟨rfl, rfl⟩
theorem iskeyk_yes (a : Option Addr) (cap : Nat) (w : World) :
    Calls Try.prog 69 #[.slice a 16 cap] w fun e w' => e = .returned (.bool true) ∧ w' = w := iskeyk a 16 cap w
theorem iskeyk_no (a : Option Addr) (n cap : Nat) (hn : n ≠ 16) (w : World) :
    Calls Try.prog 69 #[.slice a n cap] w fun e w' => e = .returned (.bool false) ∧ w' = w := by
  have h := iskeyk a n cap w
  rw [show ((n : Int) == 16) = false by simp; omega] at h
  exact h
theorem key_sizek (l : List Nat) (hl : l.length = 16) : (Try.prog.info? 73).map (·.size) = some (arr l).size := by rw [arr_size, hl]; kernel_rfl
theorem cut_wordk (g : Nat) (w : World) : (Instr.sliceAt 70 (.pointer (some ⟨g, 0, none⟩)) none none none).run Try.prog w = .ok (.slice (some ⟨g, 0, none⟩) 4 4) w := by
  have hs : ∀ w : World, (sizeOf (Try.prog.elem 70)).run Try.prog w = .ok 1 w := fun _ => by kernel_rfl
  have hl : Try.prog.arrayLen 70 = 4 := by kernel_rfl
  rw [run_sliceAt_array_all (P := Try.prog) w 70 _ (by kernel_rfl), hs]
  simp [Result.andThen, slicedAt, Addr.add_lit, hl]
theorem idx_allk (l : List Nat) (i : Nat) (hi : i < 44) (w : World) : (Instr.index 71 (.agg (arr l)) (.int .i64 (i : Int))).run Try.prog w = .ok (.agg (arr (sub l (4 * i) 4))) w := by
  have hs : ∀ w : World, (sizeOf 70).run Try.prog w = .ok 4 w := fun _ => by kernel_rfl
  have hag : ∀ w : World, (isAgg 70).run Try.prog w = .ok true w := fun _ => by kernel_rfl
  have e : (arr l).extract (i * 4) (i * 4 + 4) = arr (sub l (4 * i) 4) := by
    apply Array.ext'
    rw [Array.toList_extract]
    unfold arr sub
    simp [List.extract, Nat.mul_comm, List.map_take, List.map_drop]
  simp [Instr.index, run_underlying Try.underlying71, asIntOf, part, hs, hag, e, go_sem]
  intro h
  omega
theorem box_gt (a : Nat) (h : a < 256) : gt boxL a = sbx a := by
  have q := boxL_at a h
  rw [List.getElem?_eq_getElem (by rw [boxL_len]; exact h)] at q
  rw [gt_eq boxL a (by rw [boxL_len]; exact h)]
  exact Option.some.inj q
theorem infoS : (Try.prog.info? 22).map (fun i => (i.zero, i.size, i.bytes)) = some (some (.slice none 0 0), 1, 24) := by kernel_rfl
theorem sub_all (l : List Nat) (h : l.length = 4) : sub l 0 4 = l := by unfold sub; rw [List.drop_zero, List.take_of_length_le (by omega)]
theorem own_atk {w : World} {base n : Nat} {v : Value} {l : List Nat} (h : Own w base v l) (hn : l.length = n) (h0 : 0 < n) : ∃ g cap, v = .slice (some ⟨g, 0, none⟩) n cap ∧ base ≤ g ∧ n ≤ cap := by
  unfold Own at h
  rw [hn] at h
  rcases h.2 with ⟨-, e⟩ | ⟨g, cap, cur, e, hb, -, hc, -⟩
  · omega
  · exact ⟨g, cap, e, hb, hc⟩
theorem step_append {P : Program} {ops : Array Oper} {o : Oper} {a : Act} {w : World} {K : Act → World → Prop} {Q : Exit → Act → World → Prop} {E : Prop} (hgd : o.guard = none) (h : o.wp P a w K Q) : if Region.wanted o (yielded ops a.tmps) = true then Oper.wp P o a w K Q else E := by
  have hw : Region.wanted o (yielded ops a.tmps) = true := by simp [Region.wanted, hgd]
  rw [if_pos hw]
  exact h

set_option maxHeartbeats 2000000 in
set_option maxRecDepth 100000 in
theorem ikw_ok (v : Value) (k : List Nat) (w : World) (h : Rd w v k) (y : Byt k) (lk : k.length = 16) :
    Calls Try.prog 31 #[v] w fun e w' => ∃ r vs, e = .returned (.agg #[.int .i64 0, r]) ∧ Wds w' w.heap.size r vs (kws (kf k) 44) ∧ Below w.heap.size w w' := by
  obtain ⟨b1, o1, cap1, rfl, -, -⟩ := h.spot (by omega)
  have H1 := hid lk
  rw [lk] at h
  rw [lk]
  have A1 := hid h
  have Z1 := hid (key_sizek k lk)
  have P1 := arr_at 73 5 16 Try.underlying73 (some ⟨b1, o1, none⟩) 16 cap1 (Nat.le_refl _)
  have V0 := heap_alloc_new w (.cells #[.int .i64 0, .slice none 0 0] 47)
  have B0 := below_alloc1 w (.cells #[.int .i64 0, .slice none 0 0] 47)
  have ZB := hid (show (Try.prog.info? 67).map (·.size) = some (arr boxL).size by rw [arr_size, boxL_len]; kernel_rfl)
  clear h lk
  go_enter Try.func31, Try.ntmps31
  go_wp2_with fail
  refine (iskeyk_yes _ _ _).mono ?_
  rintro e w' ⟨rfl, rfl⟩
  go_wp2_with fail
  generalize w.alloc (.cells #[.int .i64 0, .slice none 0 0] 47) = W at *
  refine (mkbox _).mono ?_
  rintro e wm ⟨rfl, hM⟩
  replace V0 := var_below hM V0
  replace B0 := B0.trans (hM.mono B0.size)
  clear hM
  have hz1 := zero_box
  have hl0 := var_lt V0
  have R1 := hid (show ((wm.alloc (.cells (arr (zs 256)) 67)).setRow wm.heap.size (arr boxL)).rangeAt b1 o1 (k.map bv) by
    rw [World.setRow_alloc_new]
    exact rd_range (A1.out.below (B0.alloc B0.size (.cells (arr boxL) 67))))
  go_wp2_with (first | refine wpList_store_row rfl 67 _ _ rfl wm.heap.size (arr boxL) rfl rfl 67 _ (heap_alloc_new wm _) ZB.out (by rw [arr_size, arr_size, zs_len, boxL_len]) (arr_one _) ?_ | refine load_sub rfl 73 _ rfl b1 o1 rfl k R1.out _ Try.underlying73 rfl Z1.out ?_)
  rw [World.setRow_alloc_new]
  have X0 := Ar.new wm 67 boxL
  replace V0 := var_alloc (.cells (arr boxL) 67) V0
  replace B0 := B0.alloc B0.size (.cells (arr boxL) 67)
  clear R1 hl0
  generalize wm.alloc (.cells (arr boxL) 67) = W2 at *
  generalize wm.heap.size = gx at *
  refine (expk k gx _ H1.out y (fun a ha => by rw [X0.cell a (by rw [boxL_len]; exact ha), box_gt a ha])).mono ?_
  rintro e x2 ⟨rfl, hM⟩
  replace V0 := var_below hM V0
  replace B0 := B0.trans (hM.mono B0.size)
  clear hM X0 P1 Z1 ZB hz1
  generalize hF : kf k = F at *
  obtain ⟨bs, hbs⟩ : ∃ b, b = w.heap.size + 1 := ⟨_, rfl⟩
  have HS := hid hbs
  have hl1 := hid (var_lt V0)
  clear hbs
  have N0 := Wds.nil x2 bs
  obtain ⟨i0, hi, hz0, hz1, hz2⟩ := info_parts info8
  obtain ⟨j0, hj, hy0, hy1, hy2⟩ := info_parts infoS
  go_wp2_with fail
  go_loopw [4, 6, 16] (fun s4 s6 s16 ws => ∃ (n : Nat) (u6 : Value) (vs : List Value), n ≤ 44 ∧ s16 = .int .i64 n ∧ s6 = u6 ∧ Wds ws bs s4 vs (kws F n) ∧ ws.heap[w.heap.size]? = some (.cells #[.int .i64 0, .slice none 0 0] 47) ∧ Below w.heap.size w ws) (fun _ _ s16 _ => 44 - (intOf s16).toNat)
  case atStart => exact ⟨0, _, [], by omega, rfl, rfl, N0, V0, B0⟩
  case round =>
    obtain ⟨n, v6, vs, hn, rfl, rfl, N, V, B⟩ := hrel
    clear N0 V0 B0
    by_cases hlt : n < 44
    · have n0 : (0 : Int) ≤ (n : Int) := by omega
      have n1 : (n : Int) < 44 := by omega
      have IX := idx_allk (rowTo 176 F 176) n hlt
      have sl := sub_len (rowTo 176 F 176) (4 * n) 4 (by rw [rowTo_len]; omega)
      have Z4 := hid (word_size (sub (rowTo 176 F 176) (4 * n) 4) sl)
      have KS := hid (kws_snoc F n)
      have KL := hid (kws_len F n)
      have T1 := Ar.new wr 70 (sub (rowTo 176 F 176) (4 * n) 4)
      have N1 := hid (N.below (below_alloc1 wr (.cells (arr (sub (rowTo 176 F 176) (4 * n) 4)) 70)))
      have V1 := hid (var_alloc (.cells (arr (sub (rowTo 176 F 176) (4 * n) 4)) 70) V)
      have B1 := hid (B.alloc B.size (.cells (arr (sub (rowTo 176 F 176) (4 * n) 4)) 70))
      have I3 := cut_wordk wr.heap.size
      have SL := hid sl
      have TT := hid T1
      clear N V B sl T1
      go_wp2_with (refine wpList_store_row rfl 70 _ _ rfl wr.heap.size (arr (sub (rowTo 176 F 176) (4 * n) 4)) rfl rfl 70 _ (heap_alloc_new wr _) Z4.out (by rw [arr_size, SL.out]; rfl) (arr_one _) ?_)
      rw [World.setRow_alloc_new]
      generalize wr.alloc (.cells (arr (sub (rowTo 176 F 176) (4 * n) 4)) 70) = y1 at *
      generalize wr.heap.size = gw at *
      generalize sub (rowTo 176 F 176) (4 * n) 4 = wd at *
      refine wp_region_held_drew (S := fun _ => True) (by kernel_rfl) trivial (fun hH => ?_)
      replace TT := hid TT.out.drew
      replace N1 := hid (N1.out.below (Below.refl _ _).drew)
      replace V1 := hid (var_below (Below.refl _ _).drew V1.out)
      replace B1 := hid B1.out.drew
      generalize y1.drew = y2 at *
      refine wpAnyH_take (i := 0) (v := u4) (by simp only [List.getElem?_toArray, List.getElem?_cons_zero]; rfl) (by kernel_rfl) (by kernel_rfl) (by kernel_rfl) (by intro _ _ _ h; exact h) (Or.inl ⟨by rfl, fun w _ => by go_simp⟩) hH ?_
      try simp only [Act.put, List.setIfInBounds_toArray, List.set_cons_zero, List.set_cons_succ]
      refine wpAnyH_take (i := 2) (v := .slice (some ⟨gw, 0, none⟩) 4 4) (by simp only [List.getElem?_toArray, List.getElem?_cons_succ, List.getElem?_cons_zero]; rfl) (by kernel_rfl) (by kernel_rfl) (by kernel_rfl) (by intro _ _ _ h; exact h) (Or.inl ⟨by rfl, fun w _ => by go_simp⟩) hH ?_
      try simp only [Act.put, List.setIfInBounds_toArray, List.set_cons_zero, List.set_cons_succ]
      obtain ⟨y3, hmk, O3, G3⟩ := run_make_own (P := Try.prog) y2 y2.heap.size 22 5 i0 (.int .u8 0) 1 Try.underlying22 hi hz0 hz1 .i64 .i64 4 (by rw [hz2]; omega) (by unfold maxLen; omega) (Nat.le_refl _)
      rw [show ((4 : Nat) : Int) = 4 from rfl] at hmk
      have D3 : Below y2.heap.size y2 y3 := below_of_grown G3 (Nat.le_refl _) (fun _ e => by cases e)
      refine wpAnyH_ready (rs := [1]) (by kernel_rfl) (by simp) ?_
      refine AllReadyH.cons (by simp only [List.getElem?_toArray, List.getElem?_cons_succ, List.getElem?_cons_zero]; rfl) (fun K hK => ?_) AllReadyH.nil
      go_simp
      refine hK.out _ _ trivial (fun hH => ?_)
      clear hK K hmk
      try simp only [Act.put, List.setIfInBounds_toArray, List.set_cons_zero, List.set_cons_succ]
      refine wpAnyH_ready (rs := [3]) (by kernel_rfl) (by simp) ?_
      refine AllReadyH.cons (by simp only [List.getElem?_toArray, List.getElem?_cons_succ, List.getElem?_cons_zero]; rfl) (fun K hK => ?_) AllReadyH.nil
      refine step_append (by rfl) ?_
      refine wp_append_own _ _ _ 22 (by rfl) y2.heap.size 5 i0 (.int .u8 0) 1 1 Try.underlying22 hi hz0 hz1 hz2 rfl (by omega) _ 0 [] (by rfl) O3 ⟨gw, 0, none⟩ 4 4 (wd.map bv) (by rfl) (by rw [List.length_map, SL.out]) ?_ ?_ (by unfold maxLen; omega) (by omega) D3.size ?_
      · intro j u hj'
        have q := (TT.out.below D3).range 0 4 j u
        rw [sub_all wd SL.out] at q
        rw [Addr.add_lit]
        exact q hj'
      · intro u hu
        obtain ⟨x, _, rfl⟩ := List.mem_map.1 hu
        rfl
      intro u y4 hown4 hgrow4 _
      have O4 : Hid (Own y4 y2.heap.size u wd) := by
        unfold Hid Own
        rw [SL.out]
        simpa using hown4
      have D4 : Below y2.heap.size y2 y4 := D3.grown hgrow4 D3.size (fun x e => by simp [Value.ownBlock] at e; omega)
      clear hown4 hgrow4 O3 G3 D3 TT
      obtain ⟨gu, cu, rfl, -, -⟩ := own_atk O4.out SL.out (by omega)
      refine hK.out _ _ trivial (fun hH => ?_)
      clear hK K
      try simp only [Act.put, List.setIfInBounds_toArray, List.set_cons_zero, List.set_cons_succ]
      refine wpAnyH_ready (rs := [4]) (by kernel_rfl) (by simp) ?_
      refine AllReadyH.cons (by simp only [List.getElem?_toArray, List.getElem?_cons_succ, List.getElem?_cons_zero]; rfl) (fun K hK => ?_) AllReadyH.nil
      go_simp
      refine hK.out _ _ trivial (fun hH => ?_)
      clear hK K
      try simp only [Act.put, List.setIfInBounds_toArray, List.set_cons_zero, List.set_cons_succ]
      refine wpAnyH_ready (rs := [5]) (by kernel_rfl) (by simp) ?_
      refine AllReadyH.cons (by simp only [List.getElem?_toArray, List.getElem?_cons_succ, List.getElem?_cons_zero]; rfl) (fun K hK => ?_) AllReadyH.nil
      have hsz := hid (show bs ≤ y2.heap.size by have q1 := HS.out; have q2 := var_lt V1.out; omega)
      have D5 := D4.alloc D4.size (.cells #[.slice (some ⟨gu, 0, none⟩) 4 cu] 22)
      have NR := (N1.out.below D5).row
      rw [KL.out] at NR
      refine step_append (by rfl) ?_
      refine wp_append_own _ _ _ 45 (by rfl) bs 22 j0 (.slice none 0 0) 1 24 Try.underlying45 hj hy0 hy1 hy2 rfl (by omega) _ n vs (by rfl) NR ⟨y4.heap.size, 0, none⟩ 1 1 [.slice (some ⟨gu, 0, none⟩) 4 cu] (by rfl) (by rfl) (World.news_of_block (cs := #[.slice (some ⟨gu, 0, none⟩) 4 cu]) (t := 22) (fr := (0, 0)) (heap_alloc_new y4 _)) ?_ (by unfold maxLen; omega) (by omega) (by have q := D5.size; have q2 := hsz.out; omega) ?_
      · intro x hx
        obtain rfl := List.mem_singleton.1 hx
        rfl
      intro u' y6 hown6 hgrow6 _
      have N6 := hid (Wds.snoc (by decide) N1.out D5 hsz.out (O4.out.below (below_alloc1 y4 _)) (by rw [KL.out]; exact hown6) hgrow6)
      have rw6 : ∀ x, u4.ownBlock = some x → bs ≤ x := fun x e => (World.ownsRow.lt NR x e).1
      have D6 : Below bs y2 y6 := (D5.mono hsz.out).grown hgrow6 (by have q := D5.size; have q2 := hsz.out; omega) rw6
      have V6 := hid (var_keep D6 V1.out (by rw [HS.out]; omega))
      have B6 := hid (B1.out.trans (D6.mono (by rw [HS.out]; omega)))
      rw [← KS.out] at N6
      clear hown6 hgrow6 D4 D5 D6 NR O4 N1 V1 B1 rw6
      refine hK.out _ _ trivial (fun hH => ?_)
      clear hK K
      try simp only [Act.put, List.setIfInBounds_toArray, List.set_cons_zero, List.set_cons_succ]
      refine wpAnyH_ready (rs := [6]) (by kernel_rfl) (by simp) ?_
      refine AllReadyH.cons (by simp only [List.getElem?_toArray, List.getElem?_cons_succ, List.getElem?_cons_zero]; rfl) (fun K hK => ?_) AllReadyH.nil
      go_simp
      refine hK.out _ _ trivial (fun hH => ?_)
      clear hK K
      try simp only [Act.put, List.setIfInBounds_toArray, List.set_cons_zero, List.set_cons_succ]
      refine wpAnyH_done (by kernel_rfl) ?_ _
      go_wp2_with fail
      exact ⟨⟨n + 1, _, _, hlt, num_succ n, rfl, N6.out, V6.out, B6.out⟩, meas 44 n hlt⟩
    · have hn44 : n = 44 := by omega
      subst hn44
      obtain ⟨g9, c9, rfl, hg9, -, -⟩ := N.at (kws_len F 44) (by omega)
      obtain ⟨f1, f2, f3, f4⟩ := var2_facts V
      have hset := hid (var2_set (x' := .int .i64 0) (y' := .slice (some ⟨g9, 0, none⟩) 44 c9) V)
      have hbel := hid (below_set2 (x := .int .i64 0) (y := .slice (some ⟨g9, 0, none⟩) 44 c9) B (Nat.le_refl _))
      have hown := hid ((N.set2 (g := w.heap.size) (x := .int .i64 0) (y := .slice (some ⟨g9, 0, none⟩) 44 c9) (by rw [HS.out]; omega)).mono (base' := w.heap.size) (by rw [HS.out]; omega))
      rw [← hF] at hown
      clear N V B
      go_wp2
      exact bodyPost_ret (v := .agg #[.int .i64 0, .slice (some ⟨g9, 0, none⟩) 44 c9]) (results_cell_row rfl _ _ w.heap.size 47 _ _ _ rfl hset.out Try.underlying47 rfl (by kernel_rfl)) rfl ⟨_, _, rfl, hown.out, hbel.out⟩

set_option maxRecDepth 100000 in
theorem ikw_no (v : Value) (k : List Nat) (w : World) (h : Rd w v k) (lk : k.length ≠ 16) :
    Calls Try.prog 31 #[v] w fun e w' => e = .returned (.agg #[.int .i64 2, .slice none 0 0]) ∧ Below w.heap.size w w' := by
  obtain ⟨p1, cap1, rfl, -, -, -⟩ := h.parts
  clear h
  have V0 := heap_alloc_new w (.cells #[.int .i64 0, .slice none 0 0] 47)
  have B0 := below_alloc1 w (.cells #[.int .i64 0, .slice none 0 0] 47)
  obtain ⟨f1, f2, f3, f4⟩ := var2_facts V0
  have hset := hid (var2_set (x' := .int .i64 2) (y' := .slice none 0 0) V0)
  have hbel := hid (below_set2 (x := .int .i64 2) (y := .slice none 0 0) B0 (Nat.le_refl _))
  go_enter Try.func31, Try.ntmps31
  go_wp2_with fail
  refine (iskeyk_no _ _ _ lk _).mono ?_
  rintro e w' ⟨rfl, rfl⟩
  generalize w.alloc (.cells #[.int .i64 0, .slice none 0 0] 47) = W at *
  clear V0 B0
  go_wp2
  exact bodyPost_ret (v := .agg #[.int .i64 2, .slice none 0 0]) (results_cell_row rfl _ _ w.heap.size 47 _ _ _ rfl hset.out Try.underlying47 rfl (by kernel_rfl)) rfl ⟨rfl, hbel.out⟩
end Go.Proofs.Ytcmafbgfdddnnaa.W
