/-
  The words of a key: what the model's KeyWords answers.
-/
import Derived.Test.YtcmafbgfdddnnaaWds
import Derived.Test.YtcmafbgfdddnnaaCopyR
import Derived.Test.YtcmafbgfdddnnaaL2kWalks
namespace Go.Proofs.Ytcmafbgfdddnnaa.W
open Go.ChangeShapes Go.WideShapes Go.ChangeAt Go.RowKit
open Go.Proofs.Ytcmafbgfdddnnaa.M

theorem run_cuts (g n c b t : Nat) (hb : b + t ≤ c) (ht : b < c) (w : World) :
    (Instr.slice 22 (.slice (some ⟨g, 0, none⟩) n c) (some (.int .i64 (b : Int))) (some (.int .i64 ((b : Int) + (t : Int)))) none).run Try.prog w = .ok (.slice (some ⟨g, b, none⟩) t (c - b)) w := by
  have hs : ∀ w : World, (sizeOf (Try.prog.elem 22)).run Try.prog w = .ok 1 w := fun _ => by kernel_rfl
  have e1 : ((b : Int) + (t : Int)).toNat = b + t := by omega
  have h := run_slice_lh (P := Try.prog) (t := 22) (a := some ⟨g, 0, none⟩) (len := n) (cap := c) (w := w) (by kernel_rfl) .i64 .i64 (b : Int) ((b : Int) + (t : Int)) (by omega) (by omega) (by omega)
  rw [h, hs]
  simp [Result.andThen, sliced, e1, Addr.add_lit, show ¬ c = b by omega]
theorem run_cutsAt (g n c b t : Nat) (hb : b + t ≤ c) (ht : b < c) (w : World) :
    (Instr.sliceAt 22 (.slice (some ⟨g, 0, none⟩) n c) (some (.int .i64 (b : Int))) (some (.int .i64 ((b : Int) + (t : Int)))) none).run Try.prog w = .ok (.slice (some ⟨g, b, none⟩) t (c - b)) w := by
  rw [run_sliceAt_slice (P := Try.prog) w 22 _ _ _ _ (by kernel_rfl)]
  exact run_cuts g n c b t hb ht w
theorem cut4 (g b : Nat) (hb : b + 4 ≤ 176) (w : World) :
    (Instr.sliceAt 22 (.slice (some ⟨g, 0, none⟩) 176 176) (some (.int .i64 (b : Int))) (some (.int .i64 ((b : Int) + 4))) none).run Try.prog w = .ok (.slice (some ⟨g, b, none⟩) 4 (176 - b)) w := run_cutsAt g 176 176 b 4 hb (by omega) w
theorem cut4' (g b : Nat) (hb : b + 4 ≤ 176) (w : World) :
    (Instr.slice 22 (.slice (some ⟨g, 0, none⟩) 176 176) (some (.int .i64 (b : Int))) (some (.int .i64 ((b : Int) + 4))) none).run Try.prog w = .ok (.slice (some ⟨g, b, none⟩) 4 (176 - b)) w := run_cuts g 176 176 b 4 hb (by omega) w
theorem infoSs : (Try.prog.info? 22).map (fun i => (i.zero, i.size, i.bytes)) = some (some (.slice none 0 0), 1, 24) := by kernel_rfl
theorem own_ats {w : World} {base n : Nat} {v : Value} {l : List Nat} (h : Own w base v l) (hn : l.length = n) (h0 : 0 < n) : ∃ g cap, v = .slice (some ⟨g, 0, none⟩) n cap ∧ base ≤ g ∧ n ≤ cap := by
  unfold Own at h
  rw [hn] at h
  rcases h.2 with ⟨-, e⟩ | ⟨g, cap, cur, e, hb, -, hc, -⟩
  · omega
  · exact ⟨g, cap, e, hb, hc⟩
theorem step_appends {P : Program} {ops : Array Oper} {o : Oper} {a : Act} {w : World} {K : Act → World → Prop} {Q : Exit → Act → World → Prop} {E : Prop} (hgd : o.guard = none) (h : o.wp P a w K Q) : if Region.wanted o (yielded ops a.tmps) = true then Oper.wp P o a w K Q else E := by
  have hw : Region.wanted o (yielded ops a.tmps) = true := by simp [Region.wanted, hgd]
  rw [if_pos hw]
  exact h
/-- A cut of a row can be read. -/
theorem rd_cut {w : World} {g b c n : Nat} {T : TypeId} {l : List Nat} (h : Ar w g T l) (hb : b + n ≤ l.length) (hc : n ≤ c) (hm : c ≤ maxLen) : Rd w (.slice (some ⟨g, b, none⟩) n c) (sub l b n) := by
  have sl := sub_len l b n hb
  refine ⟨_, c, by rw [sl], by rw [sl]; exact hc, hm, fun i hi => ⟨g, b, rfl, ?_⟩⟩
  have q := h.range b n i (bv (sub l b n)[i])
  exact q (by rw [List.getElem?_map, List.getElem?_eq_getElem hi]; rfl)
theorem var_far {w : World} {g g' : Nat} {o : Obj} {y : Value} (h : w.heap[g]? = some o) (hne : g ≠ g') : (w.setCell ⟨g', 1, none⟩ y).heap[g]? = some o := by
  rw [heap_setCell_other w ⟨g', 1, none⟩ g _ hne]
  exact h
theorem var2_snd {w : World} {g : Nat} {x y y' : Value} {T : TypeId} (h : w.heap[g]? = some (.cells #[x, y] T)) : (w.setCell ⟨g, 1, none⟩ y').heap[g]? = some (.cells #[x, y'] T) := by
  have q := heap_setCell_same w g 1 _ T y' h
  simpa using q
end Go.Proofs.Ytcmafbgfdddnnaa.W
namespace Go.Proofs.Ytcmafbgfdddnnaa.M
open Go.RowKit
theorem row_set1 {w' : World} {base g n : Nat} {T : TypeId} {v y : Value} {xs : List Value} (h : w'.ownsRow base T 1 v n xs) (hg : g < base) : (w'.setCell ⟨g, 1, none⟩ y).ownsRow base T 1 v n xs := by
  refine ⟨h.1, ?_⟩
  rcases h.2 with hn | ⟨b, cap, cur, rfl, hbb, hgg, rest⟩
  · exact .inl hn
  · exact .inr ⟨b, cap, cur, rfl, hbb, by rw [heap_setCell_other _ ⟨g, 1, none⟩ b _ (by show b ≠ g; omega)]; exact hgg, rest⟩
theorem Wds.set1 {w' : World} {base g : Nat} {v y : Value} {vs : List Value} {ls : List (List Nat)} (h : Wds w' base v vs ls) (hg : g < base) : Wds (w'.setCell ⟨g, 1, none⟩ y) base v vs ls :=
  ⟨row_set1 h.row hg, h.len, fun i u l h1 h2 => row_set1 (h.own i u l h1 h2) hg, h.apart⟩
end Go.Proofs.Ytcmafbgfdddnnaa.M
namespace Go.Proofs.Ytcmafbgfdddnnaa.W
open Go.ChangeShapes Go.WideShapes Go.ChangeAt Go.RowKit
open Go.Proofs.Ytcmafbgfdddnnaa.M

set_option maxHeartbeats 2000000 in
set_option maxRecDepth 100000 in
theorem skw_ok (v : Value) (k : List Nat) (w : World) (h : Rd w v k) (y : Byt k) (lk : k.length = 16) :
    Calls Try.prog 33 #[v] w fun e w' => ∃ r vs, e = .returned (.agg #[.int .i64 0, r]) ∧ Wds w' w.heap.size r vs (kws (kf k) 44) ∧ Below w.heap.size w w' := by
  obtain ⟨b1, o1, cap1, rfl, -, -⟩ := h.spot (by omega)
  have H1 := hid lk
  rw [lk] at h
  rw [lk]
  have A1 := hid (h.below (below_alloc1 w (.cells #[.int .i64 0, .slice none 0 0] 47)))
  have V0 := heap_alloc_new w (.cells #[.int .i64 0, .slice none 0 0] 47)
  have B0 := below_alloc1 w (.cells #[.int .i64 0, .slice none 0 0] 47)
  have hs0 := hid (show (w.alloc (.cells #[.int .i64 0, .slice none 0 0] 47)).heap.size = w.heap.size + 1 by simp)
  clear h lk
  go_enter Try.func33, Try.ntmps33
  go_wp2_with fail
  generalize w.alloc (.cells #[.int .i64 0, .slice none 0 0] 47) = W at *
  refine (l2keys _ k _ A1.out y H1.out).mono ?_
  rintro e x1 ⟨rfl, K1, hM⟩
  replace V0 := var_below hM V0
  replace B0 := B0.trans (hM.mono B0.size)
  clear hM
  generalize hga : W.heap.size = ga at *
  generalize hF : kf k = F at *
  have V2 := heap_alloc_new x1 (.cells #[.int .i64 0, .slice none 0 0] 47)
  have hgl := var_lt V0
  have hal := K1.lt
  replace V0 := var_alloc (.cells #[.int .i64 0, .slice none 0 0] 47) V0
  replace K1 := K1.alloc (.cells #[.int .i64 0, .slice none 0 0] 47)
  replace B0 := B0.alloc B0.size (.cells #[.int .i64 0, .slice none 0 0] 47)
  have HG0 := hid (show w.heap.size < ga ∧ ga < x1.heap.size by have q := hs0.out; omega)
  obtain ⟨bs, hbs⟩ : ∃ b, b = x1.heap.size + 1 := ⟨_, rfl⟩
  have N0 := Wds.nil (x1.alloc (.cells #[.int .i64 0, .slice none 0 0] 47)) bs
  obtain ⟨j0, hj, hy0, hy1, hy2⟩ := info_parts infoSs
  have HG := hid (show w.heap.size < ga ∧ ga < x1.heap.size ∧ bs = x1.heap.size + 1 by have q := HG0.out; omega)
  clear hgl hal hs0 hbs HG0 hga A1
  go_wp2_with fail
  generalize x1.alloc (.cells #[.int .i64 0, .slice none 0 0] 47) = x3 at *
  generalize x1.heap.size = ge at *
  go_loopw [5] (fun s5 ws => ∃ (n : Nat) (vl : Value) (vs : List Value), n ≤ 44 ∧ s5 = .int .i64 n ∧ Wds ws bs vl vs (kws F n) ∧ ws.heap[ge]? = some (.cells #[.int .i64 0, vl] 47) ∧ ws.heap[w.heap.size]? = some (.cells #[.int .i64 0, .slice none 0 0] 47) ∧ Ar ws ga 5 (rowTo 176 F 176) ∧ Below w.heap.size w ws) (fun s5 _ => 44 - (intOf s5).toNat)
  case atStart => exact ⟨0, _, [], by omega, rfl, N0, V2, V0, K1, B0⟩
  case round =>
    obtain ⟨n, vl, vs, hn, rfl, N, E, V, A, B⟩ := hrel
    clear N0 V2 V0 K1 B0
    by_cases hlt : n < 44
    · have n0 : (0 : Int) ≤ (n : Int) := by omega
      have n1 : (n : Int) < 44 := by omega
      have SL := hid (sub_len (rowTo 176 F 176) (4 * n) 4 (by rw [rowTo_len]; omega))
      have KS := hid (kws_snoc F n)
      have KL := hid (kws_len F n)
      have N1 := hid N
      have E1 := hid E
      have R1 := hid V
      have A1 := hid A
      have B1 := hid B
      clear N E V A B
      go_wp2_with fail
    -- REGION 8
      refine wp_region_held_drew (S := fun _ => True) (by kernel_rfl) trivial (fun hH => ?_)
      replace N1 := hid (N1.out.below (Below.refl _ _).drew)
      replace E1 := hid (var_below (Below.refl _ _).drew E1.out)
      replace R1 := hid (var_below (Below.refl _ _).drew R1.out)
      replace A1 := hid A1.out.drew
      replace B1 := hid B1.out.drew
      generalize wr.drew = y2 at *
      have V1 := E1
      have hsz := hid (show bs ≤ y2.heap.size by have q := HG.out; have q2 := var_lt E1.out; omega)
      have TW := hid (rd_cut (b := 4 * n) (c := 176 - 4 * n) (n := 4) A1.out (by rw [rowTo_len]; omega) (by omega) (by unfold maxLen; omega))
      obtain ⟨m, hm⟩ : ∃ m, m = 4 * n := ⟨_, rfl⟩
      rw [← hm] at TW KS SL
      generalize sub (rowTo 176 F 176) m 4 = wd at *
      have m1 : 4 * (n : Int) = (m : Int) := by omega
      have W1 : IntKind.i64.wrap (m : Int) = (m : Int) := by rw [IntKind.wrap_i64]; omega
      have W2 : IntKind.i64.wrap ((m : Int) + 4) = (m : Int) + 4 := by rw [IntKind.wrap_i64]; omega
      have I1 := cut4 ga m (by omega)
      have I2 := cut4' ga m (by omega)
      have HM := hid hm
      clear hm
      refine wpAnyH_take (i := 0) (v := .pointer (some ⟨ge, 1, none⟩)) (by simp only [List.getElem?_toArray, List.getElem?_cons_zero]; rfl) (by kernel_rfl) (by kernel_rfl) (by kernel_rfl) (by intro _ _ _ h; exact h) (Or.inl ⟨by rfl, fun w _ => by go_simp⟩) hH ?_
      try simp only [Act.put, List.setIfInBounds_toArray, List.set_cons_zero, List.set_cons_succ]
      refine wpAnyH_take (i := 2) (v := .slice (some ⟨ga, 0, none⟩) 176 176) (by simp only [List.getElem?_toArray, List.getElem?_cons_succ, List.getElem?_cons_zero]; rfl) (by kernel_rfl) (by kernel_rfl) (by kernel_rfl) (by intro _ _ _ h; exact h) (Or.inl ⟨by rfl, fun w _ => by go_simp⟩) hH ?_
      try simp only [Act.put, List.setIfInBounds_toArray, List.set_cons_zero, List.set_cons_succ]
      refine wpAnyH_take (i := 3) (v := .int .i64 (n : Int)) (by simp only [List.getElem?_toArray, List.getElem?_cons_succ, List.getElem?_cons_zero]; rfl) (by kernel_rfl) (by kernel_rfl) (by kernel_rfl) (by intro _ _ _ h; exact h) (Or.inl ⟨by rfl, fun w _ => by go_simp⟩) hH ?_
      try simp only [Act.put, List.setIfInBounds_toArray, List.set_cons_zero, List.set_cons_succ]
      refine wpAnyH_take (i := 4) (v := .int .i64 (m : Int)) (by simp only [List.getElem?_toArray, List.getElem?_cons_succ, List.getElem?_cons_zero]; rfl) (by kernel_rfl) (by kernel_rfl) (by kernel_rfl) (by intro _ _ _ h; exact h) (Or.inl ⟨by rfl, fun w _ => by go_simp⟩) hH ?_
      try simp only [Act.put, List.setIfInBounds_toArray, List.set_cons_zero, List.set_cons_succ]
      refine wpAnyH_take (i := 5) (v := .int .i64 (n : Int)) (by simp only [List.getElem?_toArray, List.getElem?_cons_succ, List.getElem?_cons_zero]; rfl) (by kernel_rfl) (by kernel_rfl) (by kernel_rfl) (by intro _ _ _ h; exact h) (Or.inl ⟨by rfl, fun w _ => by go_simp⟩) hH ?_
      try simp only [Act.put, List.setIfInBounds_toArray, List.set_cons_zero, List.set_cons_succ]
      refine wpAnyH_take (i := 6) (v := .int .i64 (m : Int)) (by simp only [List.getElem?_toArray, List.getElem?_cons_succ, List.getElem?_cons_zero]; rfl) (by kernel_rfl) (by kernel_rfl) (by kernel_rfl) (by intro _ _ _ h; exact h) (Or.inl ⟨by rfl, fun w _ => by go_simp⟩) hH ?_
      try simp only [Act.put, List.setIfInBounds_toArray, List.set_cons_zero, List.set_cons_succ]
      refine wpAnyH_take (i := 7) (v := .int .i64 ((m : Int) + 4)) (by simp only [List.getElem?_toArray, List.getElem?_cons_succ, List.getElem?_cons_zero]; rfl) (by kernel_rfl) (by kernel_rfl) (by kernel_rfl) (by intro _ _ _ h; exact h) (Or.inl ⟨by rfl, fun w _ => by go_simp⟩) hH ?_
      try simp only [Act.put, List.setIfInBounds_toArray, List.set_cons_zero, List.set_cons_succ]
      refine wpAnyH_take (i := 8) (v := .slice (some ⟨ga, m, none⟩) 4 (176 - m)) (by simp only [List.getElem?_toArray, List.getElem?_cons_succ, List.getElem?_cons_zero]; rfl) (by kernel_rfl) (by kernel_rfl) (by kernel_rfl) (by intro _ _ _ h; exact h) (Or.inl ⟨by rfl, fun w _ => by go_simp⟩) hH ?_
      try simp only [Act.put, List.setIfInBounds_toArray, List.set_cons_zero, List.set_cons_succ]
      refine wpAnyH_ready (rs := [1, 9]) (by kernel_rfl) (by simp) ?_
      refine AllReadyH.cons (by simp only [List.getElem?_toArray, List.getElem?_cons_succ, List.getElem?_cons_zero]; rfl) (fun K hK => ?_) ?_
      · skip
        obtain ⟨f1, f2, f3, f4⟩ := var2_facts V1.out
        go_simp
        refine hK.out _ _ trivial (fun hH => ?_)
        clear hK K
        try simp only [Act.put, List.setIfInBounds_toArray, List.set_cons_zero, List.set_cons_succ]
        clear f1 f2 f3 f4
        refine wpAnyH_ready (rs := [9]) (by kernel_rfl) (by simp) ?_
        refine AllReadyH.cons (by simp only [List.getElem?_toArray, List.getElem?_cons_succ, List.getElem?_cons_zero]; rfl) (fun K hK => ?_) AllReadyH.nil
        go_simp
        refine (copyR _ wd 4 _ TW.out SL.out (by omega) (by omega)).mono ?_
        rintro e y4 ⟨u, rfl, O4, D4⟩
        obtain ⟨gu, cu, rfl, -, -⟩ := own_ats O4 SL.out (by omega)
        refine hK.out _ _ trivial (fun hH => ?_)
        clear hK K
        try simp only [Act.put, List.setIfInBounds_toArray, List.set_cons_zero, List.set_cons_succ]
        replace O4 := hid O4
        have HD := hid D4
        clear D4
        replace V1 := hid (var_below HD.out V1.out)
        refine wpAnyH_ready (rs := [10]) (by kernel_rfl) (by simp) ?_
        refine AllReadyH.cons (by simp only [List.getElem?_toArray, List.getElem?_cons_succ, List.getElem?_cons_zero]; rfl) (fun K hK => ?_) AllReadyH.nil
        go_simp
        refine hK.out _ _ trivial (fun hH => ?_)
        clear hK K
        try simp only [Act.put, List.setIfInBounds_toArray, List.set_cons_zero, List.set_cons_succ]
        refine wpAnyH_ready (rs := [11]) (by kernel_rfl) (by simp) ?_
        refine AllReadyH.cons (by simp only [List.getElem?_toArray, List.getElem?_cons_succ, List.getElem?_cons_zero]; rfl) (fun K hK => ?_) AllReadyH.nil
        have D4 := HD.out
        have D5 := D4.alloc D4.size (.cells #[.slice (some ⟨gu, 0, none⟩) 4 cu] 22)
        have NR := (N1.out.below D5).row
        rw [KL.out] at NR
        refine step_appends (by rfl) ?_
        refine wp_append_own _ _ _ 45 (by rfl) bs 22 j0 (.slice none 0 0) 1 24 Try.underlying45 hj hy0 hy1 hy2 rfl (by omega) _ n vs (by rfl) NR ⟨y4.heap.size, 0, none⟩ 1 1 [.slice (some ⟨gu, 0, none⟩) 4 cu] (by rfl) (by rfl) (World.news_of_block (cs := #[.slice (some ⟨gu, 0, none⟩) 4 cu]) (t := 22) (fr := (0, 0)) (heap_alloc_new y4 _)) ?_ (by unfold maxLen; omega) (by omega) (by have q := D5.size; have q2 := hsz.out; omega) ?_
        · intro x hx
          obtain rfl := List.mem_singleton.1 hx
          rfl
        intro u' y6 hown6 hgrow6 _
        have N6 := hid (Wds.snoc (by decide) N1.out D5 hsz.out (O4.out.below (below_alloc1 y4 _)) (by rw [KL.out]; exact hown6) hgrow6)
        have rw6 : ∀ x, vl.ownBlock = some x → bs ≤ x := fun x e => (World.ownsRow.lt NR x e).1
        have D6 : Below bs y2 y6 := (D5.mono hsz.out).grown hgrow6 (by have q := D5.size; have q2 := hsz.out; omega) rw6
        have V6 := var_keep D6 E1.out (by have q := HG.out; omega)
        have R6 := hid (var_keep D6 R1.out (by have q := HG.out; omega))
        have A6 := hid (A1.out.keep D6 (by have q := HG.out; omega))
        have B6 := hid (B1.out.trans (D6.mono (by have q := HG.out; omega)))
        rw [← KS.out] at N6
        clear hown6 hgrow6 D4 D5 D6 NR O4 N1 V1 R1 A1 E1 B1 rw6 HD TW
        refine hK.out _ _ trivial (fun hH => ?_)
        clear hK K
        try simp only [Act.put, List.setIfInBounds_toArray, List.set_cons_zero, List.set_cons_succ]
        refine wpAnyH_take (i := 12) (v := .pointer (some ⟨ge, 1, none⟩)) (by simp only [List.getElem?_toArray, List.getElem?_cons_succ, List.getElem?_cons_zero]; rfl) (by kernel_rfl) (by kernel_rfl) (by kernel_rfl) (by intro _ _ _ h; exact h) (Or.inl ⟨by rfl, fun w _ => by go_simp⟩) hH ?_
        try simp only [Act.put, List.setIfInBounds_toArray, List.set_cons_zero, List.set_cons_succ]
        obtain ⟨g9, c9, rfl, hg9, -, -⟩ := N6.out.at (kws_len F (n + 1)) (by omega)
        obtain ⟨f1, f2, f3, f4⟩ := var2_facts V6
        have V7 := hid (var2_snd (y' := .slice (some ⟨g9, 0, none⟩) (n + 1) c9) V6)
        have N7 := hid (N6.out.set1 (g := ge) (y := .slice (some ⟨g9, 0, none⟩) (n + 1) c9) (by have q := HG.out; omega))
        have R7 := hid (var_far (g := w.heap.size) (g' := ge) (y := .slice (some ⟨g9, 0, none⟩) (n + 1) c9) R6.out (by have q := HG.out; omega))
        have A7 := hid (show Ar _ ga 5 _ from var_far (g := ga) (g' := ge) (y := .slice (some ⟨g9, 0, none⟩) (n + 1) c9) A6.out (by have q := HG.out; omega))
        have B7 := hid (B6.out.setCell (p := ⟨ge, 1, none⟩) (by have q := HG.out; show w.heap.size ≤ ge; omega) (.slice (some ⟨g9, 0, none⟩) (n + 1) c9))
        refine wpAnyH_ready (rs := [13]) (by kernel_rfl) (by simp) ?_
        refine AllReadyH.cons (by simp only [List.getElem?_toArray, List.getElem?_cons_succ, List.getElem?_cons_zero]; rfl) (fun K hK => ?_) AllReadyH.nil
        go_simp
        refine hK.out _ _ trivial (fun hH => ?_)
        clear hK K
        try simp only [Act.put, List.setIfInBounds_toArray, List.set_cons_zero, List.set_cons_succ]
        clear V6 f1 f2 f3 f4 N6 R6 A6 B6
        refine wpAnyH_done (by kernel_rfl) ?_ _
        go_wp2_with fail
        exact ⟨⟨n + 1, _, vs ++ [.slice (some ⟨gu, 0, none⟩) 4 cu], hlt, num_succ n, N7.out, V7.out, R7.out, A7.out, B7.out⟩, meas 44 n hlt⟩
      refine AllReadyH.cons (by simp only [List.getElem?_toArray, List.getElem?_cons_succ, List.getElem?_cons_zero]; rfl) (fun K hK => ?_) AllReadyH.nil
      go_simp
      refine (copyR _ wd 4 _ TW.out SL.out (by omega) (by omega)).mono ?_
      rintro e y4 ⟨u, rfl, O4, D4⟩
      obtain ⟨gu, cu, rfl, -, -⟩ := own_ats O4 SL.out (by omega)
      refine hK.out _ _ trivial (fun hH => ?_)
      clear hK K
      try simp only [Act.put, List.setIfInBounds_toArray, List.set_cons_zero, List.set_cons_succ]
      replace O4 := hid O4
      have HD := hid D4
      clear D4
      replace V1 := hid (var_below HD.out V1.out)
      refine wpAnyH_ready (rs := [1, 10]) (by kernel_rfl) (by simp) ?_
      refine AllReadyH.cons (by simp only [List.getElem?_toArray, List.getElem?_cons_succ, List.getElem?_cons_zero]; rfl) (fun K hK => ?_) ?_
      · skip
        obtain ⟨f1, f2, f3, f4⟩ := var2_facts V1.out
        go_simp
        refine hK.out _ _ trivial (fun hH => ?_)
        clear hK K
        try simp only [Act.put, List.setIfInBounds_toArray, List.set_cons_zero, List.set_cons_succ]
        clear f1 f2 f3 f4
        refine wpAnyH_ready (rs := [10]) (by kernel_rfl) (by simp) ?_
        refine AllReadyH.cons (by simp only [List.getElem?_toArray, List.getElem?_cons_succ, List.getElem?_cons_zero]; rfl) (fun K hK => ?_) AllReadyH.nil
        go_simp
        refine hK.out _ _ trivial (fun hH => ?_)
        clear hK K
        try simp only [Act.put, List.setIfInBounds_toArray, List.set_cons_zero, List.set_cons_succ]
        refine wpAnyH_ready (rs := [11]) (by kernel_rfl) (by simp) ?_
        refine AllReadyH.cons (by simp only [List.getElem?_toArray, List.getElem?_cons_succ, List.getElem?_cons_zero]; rfl) (fun K hK => ?_) AllReadyH.nil
        have D4 := HD.out
        have D5 := D4.alloc D4.size (.cells #[.slice (some ⟨gu, 0, none⟩) 4 cu] 22)
        have NR := (N1.out.below D5).row
        rw [KL.out] at NR
        refine step_appends (by rfl) ?_
        refine wp_append_own _ _ _ 45 (by rfl) bs 22 j0 (.slice none 0 0) 1 24 Try.underlying45 hj hy0 hy1 hy2 rfl (by omega) _ n vs (by rfl) NR ⟨y4.heap.size, 0, none⟩ 1 1 [.slice (some ⟨gu, 0, none⟩) 4 cu] (by rfl) (by rfl) (World.news_of_block (cs := #[.slice (some ⟨gu, 0, none⟩) 4 cu]) (t := 22) (fr := (0, 0)) (heap_alloc_new y4 _)) ?_ (by unfold maxLen; omega) (by omega) (by have q := D5.size; have q2 := hsz.out; omega) ?_
        · intro x hx
          obtain rfl := List.mem_singleton.1 hx
          rfl
        intro u' y6 hown6 hgrow6 _
        have N6 := hid (Wds.snoc (by decide) N1.out D5 hsz.out (O4.out.below (below_alloc1 y4 _)) (by rw [KL.out]; exact hown6) hgrow6)
        have rw6 : ∀ x, vl.ownBlock = some x → bs ≤ x := fun x e => (World.ownsRow.lt NR x e).1
        have D6 : Below bs y2 y6 := (D5.mono hsz.out).grown hgrow6 (by have q := D5.size; have q2 := hsz.out; omega) rw6
        have V6 := var_keep D6 E1.out (by have q := HG.out; omega)
        have R6 := hid (var_keep D6 R1.out (by have q := HG.out; omega))
        have A6 := hid (A1.out.keep D6 (by have q := HG.out; omega))
        have B6 := hid (B1.out.trans (D6.mono (by have q := HG.out; omega)))
        rw [← KS.out] at N6
        clear hown6 hgrow6 D4 D5 D6 NR O4 N1 V1 R1 A1 E1 B1 rw6 HD TW
        refine hK.out _ _ trivial (fun hH => ?_)
        clear hK K
        try simp only [Act.put, List.setIfInBounds_toArray, List.set_cons_zero, List.set_cons_succ]
        refine wpAnyH_take (i := 12) (v := .pointer (some ⟨ge, 1, none⟩)) (by simp only [List.getElem?_toArray, List.getElem?_cons_succ, List.getElem?_cons_zero]; rfl) (by kernel_rfl) (by kernel_rfl) (by kernel_rfl) (by intro _ _ _ h; exact h) (Or.inl ⟨by rfl, fun w _ => by go_simp⟩) hH ?_
        try simp only [Act.put, List.setIfInBounds_toArray, List.set_cons_zero, List.set_cons_succ]
        obtain ⟨g9, c9, rfl, hg9, -, -⟩ := N6.out.at (kws_len F (n + 1)) (by omega)
        obtain ⟨f1, f2, f3, f4⟩ := var2_facts V6
        have V7 := hid (var2_snd (y' := .slice (some ⟨g9, 0, none⟩) (n + 1) c9) V6)
        have N7 := hid (N6.out.set1 (g := ge) (y := .slice (some ⟨g9, 0, none⟩) (n + 1) c9) (by have q := HG.out; omega))
        have R7 := hid (var_far (g := w.heap.size) (g' := ge) (y := .slice (some ⟨g9, 0, none⟩) (n + 1) c9) R6.out (by have q := HG.out; omega))
        have A7 := hid (show Ar _ ga 5 _ from var_far (g := ga) (g' := ge) (y := .slice (some ⟨g9, 0, none⟩) (n + 1) c9) A6.out (by have q := HG.out; omega))
        have B7 := hid (B6.out.setCell (p := ⟨ge, 1, none⟩) (by have q := HG.out; show w.heap.size ≤ ge; omega) (.slice (some ⟨g9, 0, none⟩) (n + 1) c9))
        refine wpAnyH_ready (rs := [13]) (by kernel_rfl) (by simp) ?_
        refine AllReadyH.cons (by simp only [List.getElem?_toArray, List.getElem?_cons_succ, List.getElem?_cons_zero]; rfl) (fun K hK => ?_) AllReadyH.nil
        go_simp
        refine hK.out _ _ trivial (fun hH => ?_)
        clear hK K
        try simp only [Act.put, List.setIfInBounds_toArray, List.set_cons_zero, List.set_cons_succ]
        clear V6 f1 f2 f3 f4 N6 R6 A6 B6
        refine wpAnyH_done (by kernel_rfl) ?_ _
        go_wp2_with fail
        exact ⟨⟨n + 1, _, vs ++ [.slice (some ⟨gu, 0, none⟩) 4 cu], hlt, num_succ n, N7.out, V7.out, R7.out, A7.out, B7.out⟩, meas 44 n hlt⟩
      refine AllReadyH.cons (by simp only [List.getElem?_toArray, List.getElem?_cons_succ, List.getElem?_cons_zero]; rfl) (fun K hK => ?_) AllReadyH.nil
      go_simp
      refine hK.out _ _ trivial (fun hH => ?_)
      clear hK K
      try simp only [Act.put, List.setIfInBounds_toArray, List.set_cons_zero, List.set_cons_succ]
      replace V1 := hid (var_alloc (.cells #[.slice (some ⟨gu, 0, none⟩) 4 cu] 22) V1.out)
      refine wpAnyH_ready (rs := [1]) (by kernel_rfl) (by simp) ?_
      refine AllReadyH.cons (by simp only [List.getElem?_toArray, List.getElem?_cons_succ, List.getElem?_cons_zero]; rfl) (fun K hK => ?_) AllReadyH.nil
      obtain ⟨f1, f2, f3, f4⟩ := var2_facts V1.out
      go_simp
      refine hK.out _ _ trivial (fun hH => ?_)
      clear hK K
      try simp only [Act.put, List.setIfInBounds_toArray, List.set_cons_zero, List.set_cons_succ]
      clear f1 f2 f3 f4
      refine wpAnyH_ready (rs := [11]) (by kernel_rfl) (by simp) ?_
      refine AllReadyH.cons (by simp only [List.getElem?_toArray, List.getElem?_cons_succ, List.getElem?_cons_zero]; rfl) (fun K hK => ?_) AllReadyH.nil
      have D4 := HD.out
      have D5 := D4.alloc D4.size (.cells #[.slice (some ⟨gu, 0, none⟩) 4 cu] 22)
      have NR := (N1.out.below D5).row
      rw [KL.out] at NR
      refine step_appends (by rfl) ?_
      refine wp_append_own _ _ _ 45 (by rfl) bs 22 j0 (.slice none 0 0) 1 24 Try.underlying45 hj hy0 hy1 hy2 rfl (by omega) _ n vs (by rfl) NR ⟨y4.heap.size, 0, none⟩ 1 1 [.slice (some ⟨gu, 0, none⟩) 4 cu] (by rfl) (by rfl) (World.news_of_block (cs := #[.slice (some ⟨gu, 0, none⟩) 4 cu]) (t := 22) (fr := (0, 0)) (heap_alloc_new y4 _)) ?_ (by unfold maxLen; omega) (by omega) (by have q := D5.size; have q2 := hsz.out; omega) ?_
      · intro x hx
        obtain rfl := List.mem_singleton.1 hx
        rfl
      intro u' y6 hown6 hgrow6 _
      have N6 := hid (Wds.snoc (by decide) N1.out D5 hsz.out (O4.out.below (below_alloc1 y4 _)) (by rw [KL.out]; exact hown6) hgrow6)
      have rw6 : ∀ x, vl.ownBlock = some x → bs ≤ x := fun x e => (World.ownsRow.lt NR x e).1
      have D6 : Below bs y2 y6 := (D5.mono hsz.out).grown hgrow6 (by have q := D5.size; have q2 := hsz.out; omega) rw6
      have V6 := var_keep D6 E1.out (by have q := HG.out; omega)
      have R6 := hid (var_keep D6 R1.out (by have q := HG.out; omega))
      have A6 := hid (A1.out.keep D6 (by have q := HG.out; omega))
      have B6 := hid (B1.out.trans (D6.mono (by have q := HG.out; omega)))
      rw [← KS.out] at N6
      clear hown6 hgrow6 D4 D5 D6 NR O4 N1 V1 R1 A1 E1 B1 rw6 HD TW
      refine hK.out _ _ trivial (fun hH => ?_)
      clear hK K
      try simp only [Act.put, List.setIfInBounds_toArray, List.set_cons_zero, List.set_cons_succ]
      refine wpAnyH_take (i := 12) (v := .pointer (some ⟨ge, 1, none⟩)) (by simp only [List.getElem?_toArray, List.getElem?_cons_succ, List.getElem?_cons_zero]; rfl) (by kernel_rfl) (by kernel_rfl) (by kernel_rfl) (by intro _ _ _ h; exact h) (Or.inl ⟨by rfl, fun w _ => by go_simp⟩) hH ?_
      try simp only [Act.put, List.setIfInBounds_toArray, List.set_cons_zero, List.set_cons_succ]
      obtain ⟨g9, c9, rfl, hg9, -, -⟩ := N6.out.at (kws_len F (n + 1)) (by omega)
      obtain ⟨f1, f2, f3, f4⟩ := var2_facts V6
      have V7 := hid (var2_snd (y' := .slice (some ⟨g9, 0, none⟩) (n + 1) c9) V6)
      have N7 := hid (N6.out.set1 (g := ge) (y := .slice (some ⟨g9, 0, none⟩) (n + 1) c9) (by have q := HG.out; omega))
      have R7 := hid (var_far (g := w.heap.size) (g' := ge) (y := .slice (some ⟨g9, 0, none⟩) (n + 1) c9) R6.out (by have q := HG.out; omega))
      have A7 := hid (show Ar _ ga 5 _ from var_far (g := ga) (g' := ge) (y := .slice (some ⟨g9, 0, none⟩) (n + 1) c9) A6.out (by have q := HG.out; omega))
      have B7 := hid (B6.out.setCell (p := ⟨ge, 1, none⟩) (by have q := HG.out; show w.heap.size ≤ ge; omega) (.slice (some ⟨g9, 0, none⟩) (n + 1) c9))
      refine wpAnyH_ready (rs := [13]) (by kernel_rfl) (by simp) ?_
      refine AllReadyH.cons (by simp only [List.getElem?_toArray, List.getElem?_cons_succ, List.getElem?_cons_zero]; rfl) (fun K hK => ?_) AllReadyH.nil
      go_simp
      refine hK.out _ _ trivial (fun hH => ?_)
      clear hK K
      try simp only [Act.put, List.setIfInBounds_toArray, List.set_cons_zero, List.set_cons_succ]
      clear V6 f1 f2 f3 f4 N6 R6 A6 B6
      refine wpAnyH_done (by kernel_rfl) ?_ _
      go_wp2_with fail
      exact ⟨⟨n + 1, _, vs ++ [.slice (some ⟨gu, 0, none⟩) 4 cu], hlt, num_succ n, N7.out, V7.out, R7.out, A7.out, B7.out⟩, meas 44 n hlt⟩
    -- END 8
    · have hn44 : n = 44 := by omega
      subst hn44
      obtain ⟨g9, c9, rfl, hg9, -, -⟩ := N.at (kws_len F 44) (by omega)
      obtain ⟨f1, f2, f3, f4⟩ := var2_facts V
      obtain ⟨f5, f6, f7, f8⟩ := var2_facts E
      have hset := hid (var2_set (x' := .int .i64 0) (y' := .slice (some ⟨g9, 0, none⟩) 44 c9) V)
      have hbel := hid (below_set2 (x := .int .i64 0) (y := .slice (some ⟨g9, 0, none⟩) 44 c9) B (Nat.le_refl _))
      have hown := hid ((N.set2 (g := w.heap.size) (x := .int .i64 0) (y := .slice (some ⟨g9, 0, none⟩) 44 c9) (by have q := HG.out; omega)).mono (base' := w.heap.size) (by have q := HG.out; omega))
      rw [← hF] at hown
      clear N V B A E
      go_wp2
      exact bodyPost_ret (v := .agg #[.int .i64 0, .slice (some ⟨g9, 0, none⟩) 44 c9]) (results_cell_row rfl _ _ w.heap.size 47 _ _ _ rfl hset.out Try.underlying47 rfl (by kernel_rfl)) rfl ⟨_, _, rfl, hown.out, hbel.out⟩

set_option maxRecDepth 100000 in
theorem skw_no (v : Value) (k : List Nat) (w : World) (h : Rd w v k) (lk : k.length ≠ 16) :
    Calls Try.prog 33 #[v] w fun e w' => e = .returned (.agg #[.int .i64 2, .slice none 0 0]) ∧ Below w.heap.size w w' := by
  obtain ⟨p1, cap1, rfl, -, -, -⟩ := h.parts
  clear h
  have V0 := heap_alloc_new w (.cells #[.int .i64 0, .slice none 0 0] 47)
  have B0 := below_alloc1 w (.cells #[.int .i64 0, .slice none 0 0] 47)
  have n1 : ((k.length : Int) != 16) = true := by rw [bne_iff_ne]; omega
  obtain ⟨f1, f2, f3, f4⟩ := var2_facts V0
  have hset := hid (var2_set (x' := .int .i64 2) (y' := .slice none 0 0) V0)
  have hbel := hid (below_set2 (x := .int .i64 2) (y := .slice none 0 0) B0 (Nat.le_refl _))
  go_enter Try.func33, Try.ntmps33
  go_wp2_with fail
  exact bodyPost_ret (v := .agg #[.int .i64 2, .slice none 0 0]) (by simp [results, Try.results33, go_sem]) rfl ⟨rfl, below_alloc1 w _⟩
end Go.Proofs.Ytcmafbgfdddnnaa.W
