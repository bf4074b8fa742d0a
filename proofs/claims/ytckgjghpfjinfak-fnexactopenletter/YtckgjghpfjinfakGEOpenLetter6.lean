/-
  A letter that is opened: what the program's OpenLetter answers.
-/
import Derived.Test.YtckgjghpfjinfakOlF
import Derived.Test.YtckgjghpfjinfakGEOpenLetter2
import Derived.Test.YtckgjghpfjinfakGEOpenLetter5
import Derived.Test.YtckgjghpfjinfakTailW

namespace Go.Proofs.Ytckgjghpfjinfak.W
open Go.ChangeShapes Go.WideShapes Go.ChangeAt Go.RowKit
open Go.Proofs.Ytckgjghpfjinfak.M

theorem arr_inj {a b : List Nat} (h : arr a = arr b) : a = b := by
  have h1 : a.map bv = b.map bv := by
    have := congrArg Array.toList h
    simpa [arr] using this
  have inj : ∀ x y : Nat, bv x = bv y → x = y := fun x y e => by
    have e2 : (x : Int) = (y : Int) := by simpa [bv] using e
    omega
  exact (List.map_inj_right inj).1 h1
theorem byt_dropz {l : List Nat} (h : Byt l) (k : Nat) : Byt (l.drop k) := fun x hx => h x (List.mem_of_mem_drop hx)
set_option maxHeartbeats 4000000 in
set_option maxRecDepth 100000 in
theorem iol (p : Int) (v vd : Value) (ks : List (Int × List Nat)) (l : List Nat) (hc hk hs hn c rk rs rc : Int) (t : List Nat) (w : World) (h : RdK w v ks) (hd : Rd w vd l) (yk : KBy ks) (yl : Byt l) (hm : l.length ≤ 1048576) (hp : (Lit.int .i64 p).wf = true) (hR : rhIs l hc hk hs hn) (hF : olIs p ks l hc hk hs hn c rk rs rc t) :
    Calls Try.prog 31 #[.agg #[.int .i64 p, v], vd] w fun e w' => ∃ v', e = .returned (.agg #[.int .i64 c, .int .i64 rk, .int .i64 rs, .int .i64 rc, v']) ∧ OB w' w.heap.size w'.heap.size v' t ∧ Below w.heap.size w w' := by
  have H := hid h
  have HD := hid hd
  have HF := hid hF
  have HR := hid hR
  have YK := hid yk
  have YL := hid yl
  obtain ⟨a, cap, rfl, -, -, -⟩ := h.parts
  obtain ⟨ad, cd, rfl, -, -, -⟩ := hd.parts
  clear h hd hF hR yk yl
  go_enter Try.func31, Try.ntmps31
  go_wp2_with fail
  have VR := hid (heap_alloc2_new w (.cells #[.int .i64 p, .slice a ks.length cap] 55) (.cells #[.int .i64 0, .int .i64 0, .int .i64 0, .int .i64 0, .slice none 0 0] 40))
  have BB := hid (below_alloc2 w (.cells #[.int .i64 p, .slice a ks.length cap] 55) (.cells #[.int .i64 0, .int .i64 0, .int .i64 0, .int .i64 0, .slice none 0 0] 40))
  replace H := hid (H.out.below BB.out)
  replace HD := hid (HD.out.below BB.out)
  generalize (w.alloc (.cells #[.int .i64 p, .slice a ks.length cap] 55)).alloc (.cells #[.int .i64 0, .int .i64 0, .int .i64 0, .int .i64 0, .slice none 0 0] 40) = w0 at *
  obtain ⟨g1, hg1⟩ : ∃ g, g = w.heap.size + 1 := ⟨_, rfl⟩
  have LG := hid (show w.heap.size ≤ g1 by omega)
  rw [← hg1] at VR ⊢
  clear hg1
  refine (ikrD p _ ks _ H.out hp).mono ?_
  rintro e w1 ⟨r, rfl, hr, hB⟩
  replace VR := hid (var_below hB VR.out)
  replace HD := hid (HD.out.below hB)
  replace BB := hid (BB.out.trans (hB.mono BB.out.size))
  clear hB
  obtain ⟨f, hf⟩ : ∃ f, f = rF p ks := ⟨_, rfl⟩
  rw [← hf] at hr ⊢
  by_cases h0 : f = 0
  · obtain ⟨g, b, D, rfl, -, -, hR1⟩ := hr h0
    subst h0
    obtain ⟨k1, k3, k16, -, -⟩ := rF_parts hf.symm
    replace hf := hid hf
    have R1 := hid hR1
    have K16 := hid (fun i hi => (k16 i hi).2)
    clear hr hR1 k16
    go_wp2_with fail
    refine (within1 _ _ _ _ _ (heap_alloc_new w1 _)).mono ?_
    rintro e w2 ⟨rfl, hB⟩
    replace hB := (below_alloc1 w1 (.cells #[.int .i64 (l.length : Int), .int .i64 0, .int .i64 327] 70)).trans (hB.mono (by simp))
    replace VR := hid (var_below hB VR.out)
    replace HD := hid (HD.out.below hB)
    replace BB := hid (BB.out.trans (hB.mono BB.out.size))
    replace R1 := hid (R1.out.below hB)
    clear hB
    by_cases h2 : 327 < l.length
    · obtain ⟨rfl, rfl, rfl, rfl, rfl⟩ := ol_many HF.out hf.out.symm h2
      rw [show inB (l.length : Int) 0 327 = false by unfold inB; exact decide_eq_false (by omega)]
      obtain ⟨⟨r0, r1, r2, r3, r4⟩, y0, y1, y2, y3, y4⟩ := var5_facts VR.out
      have hset := hid (var5_set (v' := .int .i64 2) (x' := .int .i64 0) (y' := .int .i64 0) (z' := .int .i64 0) (u' := .slice none 0 0) VR.out)
      have hbel := hid (below_set5 (g := g1) (v := .int .i64 2) (x := .int .i64 0) (y := .int .i64 0) (z := .int .i64 0) (u := .slice none 0 0) BB.out LG.out)
      go_wp2
      try simp only [Exit.inBlock, Exit.then]
      exact bodyPost_ret (v := .agg #[.int .i64 2, .int .i64 0, .int .i64 0, .int .i64 0, .slice none 0 0]) (results_cell_row rfl _ _ g1 40 _ _ _ rfl hset.out Try.underlying40 rfl (by kernel_rfl)) rfl ⟨_, rfl, OB.nil _ _ _, hbel.out⟩
    · have h2' : l.length ≤ 327 := by omega
      rw [show inB (l.length : Int) 0 327 = true by unfold inB; exact decide_eq_true (by omega)]
      go_wp2_with fail
      refine (irh _ l hc hk hs hn _ HD.out YL.out hm HR.out).mono ?_
      rintro e w3 ⟨rfl, hB⟩
      replace VR := hid (var_below hB VR.out)
      replace HD := hid (HD.out.below hB)
      replace BB := hid (BB.out.trans (hB.mono BB.out.size))
      replace R1 := hid (R1.out.below hB)
      clear hB
      have VH := hid (heap_alloc_new w3 (.cells #[.int .i64 hs, .int .i64 hn, .int .i64 hk] 65))
      have hB := below_alloc1 w3 (.cells #[.int .i64 hs, .int .i64 hn, .int .i64 hk] 65)
      have LH := hid (show g1 < w3.heap.size from var_lt VR.out)
      replace VR := hid (var_below hB VR.out)
      replace HD := hid (HD.out.below hB)
      replace BB := hid (BB.out.trans (hB.mono BB.out.size))
      replace R1 := hid (R1.out.below hB)
      clear hB
      by_cases h3 : hc = 0
      · subst h3
        obtain ⟨l11, hok⟩ := rh_in HR.out
        have HOK := hid hok
        have WK := hid (show (Lit.int .i64 hk).wf = true from WalkArith.wf_i64 (by have := hok.1; omega))
        clear hok
        obtain ⟨⟨d0, d1, d2⟩, -⟩ := var3_facts VH.out
        obtain ⟨f0, f1, -, -⟩ := var2_facts R1.out.block
        obtain ⟨lx, l16, hat, hlk⟩ := look_at (b := b) (n := ks.length) R1.out.good hk WK.out
        have L16 := hid l16
        have AT := hid hat
        have LK := hid hlk
        clear l16 hat hlk
        have Zs := hid (show (Try.prog.info? 93).map (·.size) = some (arr lx).size by rw [arr_size, L16.out]; kernel_rfl)
        obtain ⟨tb, htb⟩ : ∃ x, x = Maps.has D (.int .i64 hk) := ⟨_, rfl⟩
        rw [← htb] at LK
        replace htb := hid htb
        go_wp2_with fail
        generalize w3.alloc (.cells #[.int .i64 hs, .int .i64 hn, .int .i64 hk] 65) = w4 at *
        obtain ⟨gh, hgh⟩ : ∃ g, g = w3.heap.size := ⟨_, rfl⟩
        rw [← hgh] at VH LH d0 d1 d2 ⊢
        clear hgh
        refine wp_region_held_drew (S := fun w' => Below w4.heap.size w4 w') (by kernel_rfl) (Below.refl _ _).drew (fun hH => ?_)
        generalize w4.drew = x at hH ⊢
        refine wpAnyH_take (i := 0) (v := .pointer (some ⟨g, 0, none⟩)) (by simp only [List.getElem?_toArray, List.getElem?_cons_zero]; rfl) (by kernel_rfl) (by kernel_rfl) (by kernel_rfl) (by intro _ _ _ h; exact h) (Or.inl ⟨by rfl, fun w hS => by go_simp⟩) hH ?_
        simp only [Act.put, List.setIfInBounds_toArray, List.set_cons_zero, List.set_cons_succ]
        refine wpAnyH_take (i := 1) (v := .pointer (some ⟨g, 0, none⟩)) (by simp only [List.getElem?_toArray, List.getElem?_cons_succ, List.getElem?_cons_zero]; rfl) (by kernel_rfl) (by kernel_rfl) (by kernel_rfl) (by intro _ _ _ h; exact h) (Or.inl ⟨by rfl, fun w hS => by go_simp⟩) hH ?_
        simp only [Act.put, List.setIfInBounds_toArray, List.set_cons_zero, List.set_cons_succ]
        refine wpAnyH_take (i := 2) (v := .pointer (some ⟨g, 1, none⟩)) (by simp only [List.getElem?_toArray, List.getElem?_cons_succ, List.getElem?_cons_zero]; rfl) (by kernel_rfl) (by kernel_rfl) (by kernel_rfl) (by intro _ _ _ h; exact h) (Or.inl ⟨by rfl, fun w hS => by go_simp⟩) hH ?_
        simp only [Act.put, List.setIfInBounds_toArray, List.set_cons_zero, List.set_cons_succ]
        refine wpAnyH_take (i := 3) (v := .map (some b)) (by simp only [List.getElem?_toArray, List.getElem?_cons_succ, List.getElem?_cons_zero]; rfl) (by kernel_rfl) (by kernel_rfl) (by kernel_rfl) (by intro _ _ _ h; exact h) (Or.inl ⟨by rfl, fun w hS => by (have y0 := cell_kept hS f1; go_simp)⟩) hH ?_
        simp only [Act.put, List.setIfInBounds_toArray, List.set_cons_zero, List.set_cons_succ]
        refine wpAnyH_take (i := 4) (v := .pointer (some ⟨gh, 2, none⟩)) (by simp only [List.getElem?_toArray, List.getElem?_cons_succ, List.getElem?_cons_zero]; rfl) (by kernel_rfl) (by kernel_rfl) (by kernel_rfl) (by intro _ _ _ h; exact h) (Or.inl ⟨by rfl, fun w hS => by go_simp⟩) hH ?_
        simp only [Act.put, List.setIfInBounds_toArray, List.set_cons_zero, List.set_cons_succ]
        refine wpAnyH_take (i := 5) (v := .int .i64 hk) (by simp only [List.getElem?_toArray, List.getElem?_cons_succ, List.getElem?_cons_zero]; rfl) (by kernel_rfl) (by kernel_rfl) (by kernel_rfl) (by intro _ _ _ h; exact h) (Or.inl ⟨by rfl, fun w hS => by (have y0 := cell_kept hS d2; go_simp)⟩) hH ?_
        simp only [Act.put, List.setIfInBounds_toArray, List.set_cons_zero, List.set_cons_succ]
        refine wpAnyH_take (i := 6) (v := .tuple #[.agg (arr lx), .bool tb]) (by simp only [List.getElem?_toArray, List.getElem?_cons_succ, List.getElem?_cons_zero]; rfl) (by kernel_rfl) (by kernel_rfl) (by kernel_rfl) (by intro _ _ _ h; exact h) (Or.inl ⟨by rfl, fun w hS => by (have y := LK.out w (R1.out.map.below hS); go_simp)⟩) hH ?_
        simp only [Act.put, List.setIfInBounds_toArray, List.set_cons_zero, List.set_cons_succ]
        refine wpAnyH_take (i := 7) (v := .tuple #[.agg (arr lx), .bool tb]) (by simp only [List.getElem?_toArray, List.getElem?_cons_succ, List.getElem?_cons_zero]; rfl) (by kernel_rfl) (by kernel_rfl) (by kernel_rfl) (by intro _ _ _ h; exact h) (Or.inl ⟨by rfl, fun w hS => by go_simp⟩) hH ?_
        simp only [Act.put, List.setIfInBounds_toArray, List.set_cons_zero, List.set_cons_succ]
        refine wpAnyH_take (i := 8) (v := .agg (arr lx)) (by simp only [List.getElem?_toArray, List.getElem?_cons_succ, List.getElem?_cons_zero]; rfl) (by kernel_rfl) (by kernel_rfl) (by kernel_rfl) (by intro _ _ _ h; exact h) (Or.inl ⟨by rfl, fun w hS => by go_simp⟩) hH ?_
        simp only [Act.put, List.setIfInBounds_toArray, List.set_cons_zero, List.set_cons_succ]
        refine wpAnyH_take (i := 9) (v := .bool tb) (by simp only [List.getElem?_toArray, List.getElem?_cons_succ, List.getElem?_cons_zero]; rfl) (by kernel_rfl) (by kernel_rfl) (by kernel_rfl) (by intro _ _ _ h; exact h) (Or.inl ⟨by rfl, fun w hS => by go_simp⟩) hH ?_
        simp only [Act.put, List.setIfInBounds_toArray, List.set_cons_zero, List.set_cons_succ]
        refine wpAnyH_ready (rs := [10]) (by kernel_rfl) (by simp) ?_
        refine AllReadyH.cons (by simp only [List.getElem?_toArray, List.getElem?_cons_succ, List.getElem?_cons_zero]; rfl) (fun K hK => ?_) AllReadyH.nil
        go_simp
        have hM := below_alloc1 x (.cells #[.int .u8 0, .int .u8 0, .int .u8 0, .int .u8 0, .int .u8 0, .int .u8 0, .int .u8 0, .int .u8 0, .int .u8 0, .int .u8 0, .int .u8 0, .int .u8 0, .int .u8 0, .int .u8 0, .int .u8 0, .int .u8 0] 93)
        have LX := hid hH.size
        have VK := hid (heap_alloc_new x (.cells #[.int .u8 0, .int .u8 0, .int .u8 0, .int .u8 0, .int .u8 0, .int .u8 0, .int .u8 0, .int .u8 0, .int .u8 0, .int .u8 0, .int .u8 0, .int .u8 0, .int .u8 0, .int .u8 0, .int .u8 0, .int .u8 0] 93))
        refine hK.out _ _ (hH.alloc hH.size _) (fun hH => ?_)
        clear hK K hM
        generalize x.alloc (.cells #[.int .u8 0, .int .u8 0, .int .u8 0, .int .u8 0, .int .u8 0, .int .u8 0, .int .u8 0, .int .u8 0, .int .u8 0, .int .u8 0, .int .u8 0, .int .u8 0, .int .u8 0, .int .u8 0, .int .u8 0, .int .u8 0] 93) = x10 at *
        obtain ⟨gx, hgx⟩ : ∃ g, g = x.heap.size := ⟨_, rfl⟩
        rw [← hgx] at VK LX ⊢
        clear hgx
        refine wpAnyH_ready (rs := [11]) (by kernel_rfl) (by simp) ?_
        refine AllReadyH.cons (by simp only [List.getElem?_toArray, List.getElem?_cons_succ, List.getElem?_cons_zero]; rfl) (fun K hK => ?_) AllReadyH.nil
        refine step_store_row (by rfl) _ _ _ (by rfl) gx (arr lx) (by rfl) (by rfl) 93 _ VK.out Zs.out (by rw [arr_size, L16.out]; rfl) (arr_one lx) ?_
        have VK2 := hid (setRow_heap _ gx _ (arr lx) _ _ VK.out)
        have BY := hid (below_row hH (g := gx) LX.out (arr lx))
        refine hK.out _ _ BY.out (fun hH => ?_)
        clear hK K BY VK
        generalize x10.setRow gx (arr lx) = x11 at *
        try simp only [Act.put]
        refine wpAnyH_take (i := 12) (v := .bool tb) (by simp only [List.getElem?_toArray, List.getElem?_cons_succ, List.getElem?_cons_zero]; rfl) (by kernel_rfl) (by kernel_rfl) (by kernel_rfl) (by intro _ _ _ h; exact h) (Or.inl ⟨by rfl, fun w hS => by go_simp⟩) hH ?_
        simp only [Act.put, List.setIfInBounds_toArray, List.set_cons_zero, List.set_cons_succ]
        refine wpAnyH_done (by kernel_rfl) ?_ _
        have hB := hH
        clear hH d0 d1 d2 f0 f1
        replace VH := hid (var_below hB VH.out)
        replace VR := hid (var_below hB VR.out)
        replace HD := hid (HD.out.below hB)
        replace BB := hid (BB.out.trans (hB.mono BB.out.size))
        clear hB
        by_cases hh : Has ks hk
        · obtain ⟨j, hj, hx⟩ := hh
          have HS : tb = true := htb.out.trans ((R1.out.has hk).2 ⟨j, hj, hj, hx⟩)
          subst HS
          have HX := hid hx
          have EA : arr lx = arr (ks[j]).2 := by
            have e1 := AT.out
            have e2 : D.atKey (.int .i64 hk) zK = .held (.agg (arr (ks[j]).2)) := by rw [← hx]; exact R1.out.bytes j hj hj
            rw [e2] at e1
            simp only [DataW.held.injEq, Value.agg.injEq] at e1
            exact e1.symm
          replace EA := hid EA
          have K6 := hid (K16.out j hj)
          have YJ := hid (YK.out _ (List.getElem_mem hj))
          clear hx
          obtain ⟨ad', cd', e, hlc, -, -⟩ := HD.out.parts
          cases e
          obtain ⟨bd, od, cdd, e, -, -⟩ := HD.out.spot (by omega)
          cases e
          obtain ⟨at', RT, RRT⟩ := run_tail bd od l.length cd l11 hlc
          have RT' := hid RRT
          clear RRT
          obtain ⟨⟨d0, d1, d2⟩, -⟩ := var3_facts VH.out
          obtain ⟨hkn, ek⟩ : ∃ x : Nat, hk = x := ⟨hk.toNat, by have := HOK.out.1; omega⟩
          obtain ⟨hsn, es⟩ : ∃ x : Nat, hs = x := ⟨hs.toNat, by have := HOK.out.2.1; omega⟩
          obtain ⟨hnx, en⟩ : ∃ x : Nat, hn = x := ⟨hn.toNat, by have := HOK.out.2.2; omega⟩
          subst ek es en
          have EL := hid (arr_inj EA.out)
          have YX := hid (show Byt lx by rw [EL.out]; exact YJ.out)
          have EB := hid (show opB lx (nonceL hsn hnx) (headL hkn hsn hnx) (l.drop 11) = oB (ks[j]).2 (hkn : Int) (hsn : Int) (hnx : Int) l by rw [EL.out]; rfl)
          have BB0 := BB
          go_wp2_with fail
          refine wp_region_held_drew (S := fun w' => Below x11.heap.size x11 w') (by kernel_rfl) (Below.refl _ _).drew (fun hH => ?_)
          generalize x11.drew = x at hH ⊢
          refine wpAnyH_take (i := 0) (v := .agg #[.int .i64 (hsn : Int), .int .i64 (hnx : Int), .int .i64 (hkn : Int)]) (by simp only [List.getElem?_toArray, List.getElem?_cons_zero]; rfl) (by kernel_rfl) (by kernel_rfl) (by kernel_rfl) (by intro _ _ _ h; exact h) (Or.inl ⟨by rfl, fun w hS => by (have y0 := cell_kept hS d0; have y1 := cell_kept hS d1; have y2 := cell_kept hS d2; go_simp)⟩) hH ?_
          simp only [Act.put, List.setIfInBounds_toArray, List.set_cons_zero, List.set_cons_succ]
          refine wpAnyH_take (i := 1) (v := .agg (arr lx)) (by simp only [List.getElem?_toArray, List.getElem?_cons_succ, List.getElem?_cons_zero]; rfl) (by kernel_rfl) (by kernel_rfl) (by kernel_rfl) (by intro _ _ _ h; exact h) (yieldsIf_load_mid (by rfl) _ _ rfl gx 0 rfl (lx.map bv) _ (fun w hS => show w.rangeAt gx 0 (lx.map bv) from row_range (var_below hS VK2.out)) Try.underlying93 rfl (by rw [List.length_map, ← arr_size]; exact Zs.out)) hH ?_
          simp only [Act.put, List.setIfInBounds_toArray, List.set_cons_zero, List.set_cons_succ]
          refine wpAnyH_take (i := 2) (v := .slice (some ⟨bd, od, none⟩) l.length cd) (by simp only [List.getElem?_toArray, List.getElem?_cons_succ, List.getElem?_cons_zero]; rfl) (by kernel_rfl) (by kernel_rfl) (by kernel_rfl) (by intro _ _ _ h; exact h) (Or.inl ⟨by rfl, fun w hS => by go_simp⟩) hH ?_
          simp only [Act.put, List.setIfInBounds_toArray, List.set_cons_zero, List.set_cons_succ]
          refine wpAnyH_take (i := 3) (v := .slice at' (l.length - 11) (cd - 11)) (by simp only [List.getElem?_toArray, List.getElem?_cons_succ, List.getElem?_cons_zero]; rfl) (by kernel_rfl) (by kernel_rfl) (by kernel_rfl) (by intro _ _ _ h; exact h) (Or.inl ⟨by rfl, fun w hS => by (have y := RT; go_simp)⟩) hH ?_
          simp only [Act.put, List.setIfInBounds_toArray, List.set_cons_zero, List.set_cons_succ]
          refine wpAnyH_ready (rs := [4, 5]) (by kernel_rfl) (by simp) ?_
          refine AllReadyH.cons (by simp only [List.getElem?_toArray, List.getElem?_cons_succ, List.getElem?_cons_zero]; rfl) (fun K hK => ?_) ?_
          · go_simp
            refine (ihopen lx hkn hsn hnx _ (l.drop 11) _ (RT'.out _ _ (HD.out.below hH)) YX.out (byt_dropz YL.out 11) L16.out (by have := HOK.out.1; omega) (by have := HOK.out.2.1; omega) (by have := HOK.out.2.2; omega)).mono ?_
            rintro e x4 ⟨v4, rfl, hO, hM⟩
            obtain ⟨p4, k4, rfl, -, -, -⟩ := hO.rd.parts
            have LO := hid hH.size
            have SB := hid hH.size
            refine hK.out _ _ (hH.trans (hM.mono hH.size)) (fun hH => ?_)
            clear hK K
            have OE := hid (OB.of hO)
            have LH4 := hid hM.size
            obtain ⟨cc, hcc⟩ : ∃ x, x = opC lx (nonceL hsn hnx) (headL hkn hsn hnx) (l.drop 11) := ⟨_, rfl⟩
            obtain ⟨m4, hm4⟩ : ∃ x, x = (opB lx (nonceL hsn hnx) (headL hkn hsn hnx) (l.drop 11)).length := ⟨_, rfl⟩
            rw [← hcc, ← hm4]
            rw [← hm4] at OE
            replace hcc := hid hcc
            replace hm4 := hid hm4
            clear hO
            clear hM SB
            refine wpAnyH_ready (rs := [5]) (by kernel_rfl) (by simp) ?_
            refine AllReadyH.cons (by simp only [List.getElem?_toArray, List.getElem?_cons_succ, List.getElem?_cons_zero]; rfl) (fun K hK => ?_) AllReadyH.nil
            go_simp
            have hM := below_alloc1 x4 (.cells #[.int .i64 0, .slice none 0 0] 32)
            have LT := hid hH.size
            have VT := hid (heap_alloc_new x4 (.cells #[.int .i64 0, .slice none 0 0] 32))
            replace OE := hid (OE.out.below hM)
            refine hK.out _ _ (hH.alloc hH.size _) (fun hH => ?_)
            clear hK K hM
            generalize x4.alloc (.cells #[.int .i64 0, .slice none 0 0] 32) = x5 at *
            obtain ⟨gt, hgt⟩ : ∃ g, g = x4.heap.size := ⟨_, rfl⟩
            have NT := hid (show gt < x.heap.size ∨ x4.heap.size ≤ gt from .inr (Nat.le_of_eq hgt.symm))
            rw [← hgt] at VT LT ⊢
            clear hgt
            refine wpAnyH_ready (rs := [6]) (by kernel_rfl) (by simp) ?_
            refine AllReadyH.cons (by simp only [List.getElem?_toArray, List.getElem?_cons_succ, List.getElem?_cons_zero]; rfl) (fun K hK => ?_) AllReadyH.nil
            obtain ⟨e0, e1, e2, e3⟩ := var2_facts VT.out
            go_simp
            have VT2 := hid (var2_set (x' := .int .i64 cc) (y' := .slice p4 m4 k4) VT.out)
            have OE2 := hid ((OE.out.agr (fun k h1 h2 => Below.heap_setCell _ ⟨gt, 0, none⟩ (.int .i64 cc) k (by have := NT.out; show k ≠ gt; omega))).agr (fun k h1 h2 => Below.heap_setCell _ ⟨gt, 1, none⟩ (.slice p4 m4 k4) k (by have := NT.out; show k ≠ gt; omega)))
            refine hK.out _ _ ((hH.setCell (p := ⟨gt, 0, none⟩) LT.out _).setCell (p := ⟨gt, 1, none⟩) LT.out _) (fun hH => ?_)
            clear hK K e0 e1 e2 e3 VT OE
            generalize (x5.setCell ⟨gt, 0, none⟩ (.int .i64 cc)).setCell ⟨gt, 1, none⟩ (.slice p4 m4 k4) = x6 at *
            refine wpAnyH_done (by kernel_rfl) ?_ _
            have hB := hH
            clear hH d0 d1 d2
            have LV := hid (show g1 < _ from Nat.lt_of_lt_of_le (var_lt VR.out) LO.out)
            replace VH := hid (var_below hB VH.out)
            replace VR := hid (var_below hB VR.out)
            replace BB := hid (BB.out.trans (hB.mono BB.out.size))
            clear hB
            obtain ⟨t0, t1, -, -⟩ := var2_facts VT2.out
            obtain ⟨⟨d0, d1, d2⟩, -⟩ := var3_facts VH.out
            by_cases hz : cc = 0
            · subst hz
              obtain ⟨rfl, rfl, rfl, rfl, rfl⟩ := ol_ok HF.out hf.out.symm h2' j hj HX.out (by rw [← EL.out]; exact hcc.out.symm)
              go_wp2_with fail
              refine (iletter _ _ _ _ _ _ _).mono ?_
              rintro e x7 ⟨rfl, hB⟩
              clear d0 d1 d2 t0 t1
              replace VR := hid (var_below hB VR.out)
              replace OE2 := hid (OE2.out.below hB)
              replace BB := hid (BB.out.trans (hB.mono BB.out.size))
              clear hB
              obtain ⟨⟨r0, r1, r2, r3, r4⟩, y0, y1, y2, y3, y4⟩ := var5_facts VR.out
              have hset := hid (var5_set (v' := .int .i64 0) (x' := .int .i64 (hkn : Int)) (y' := .int .i64 (hsn : Int)) (z' := .int .i64 (hnx : Int)) (u' := .slice p4 m4 k4) VR.out)
              have hbel := hid (below_set5 (g := g1) (v := .int .i64 0) (x := .int .i64 (hkn : Int)) (y := .int .i64 (hsn : Int)) (z := .int .i64 (hnx : Int)) (u := .slice p4 m4 k4) BB.out LG.out)
              go_wp2
              try simp only [Exit.inBlock, Exit.then]
              exact bodyPost_ret (v := .agg #[.int .i64 0, .int .i64 (hkn : Int), .int .i64 (hsn : Int), .int .i64 (hnx : Int), .slice p4 m4 k4]) (results_cell_row rfl _ _ g1 40 _ _ _ rfl hset.out Try.underlying40 rfl (by kernel_rfl)) rfl ⟨_, rfl, EB.out ▸ (OB.of ((((((OE2.out.under ⟨g1, 0, none⟩ LV.out _).under ⟨g1, 1, none⟩ LV.out _).under ⟨g1, 2, none⟩ LV.out _).under ⟨g1, 3, none⟩ LV.out _).under ⟨g1, 4, none⟩ LV.out _)).1).mono (Nat.le_trans BB0.out.size LO.out) (Nat.le_refl _), hbel.out⟩
            · obtain ⟨rfl, rfl, rfl, rfl, rfl⟩ := ol_seal HF.out hf.out.symm h2' j hj HX.out (by rw [← EL.out]; exact fun q => hz (hcc.out.trans q))
              have ne : (cc != 0) = true := by rw [bne_iff_ne]; exact hz
              replace hz := hid hz
              obtain ⟨⟨r0, r1, r2, r3, r4⟩, y0, y1, y2, y3, y4⟩ := var5_facts VR.out
              have hset := hid (var5_set (v' := .int .i64 9) (x' := .int .i64 0) (y' := .int .i64 0) (z' := .int .i64 0) (u' := .slice none 0 0) VR.out)
              have hbel := hid (below_set5 (g := g1) (v := .int .i64 9) (x := .int .i64 0) (y := .int .i64 0) (z := .int .i64 0) (u := .slice none 0 0) BB.out LG.out)
              go_wp2
              try simp only [Exit.inBlock, Exit.then]
              exact bodyPost_ret (v := .agg #[.int .i64 9, .int .i64 0, .int .i64 0, .int .i64 0, .slice none 0 0]) (results_cell_row rfl _ _ g1 40 _ _ _ rfl hset.out Try.underlying40 rfl (by kernel_rfl)) rfl ⟨_, rfl, OB.nil _ _ _, hbel.out⟩
          refine AllReadyH.cons (by simp only [List.getElem?_toArray, List.getElem?_cons_succ, List.getElem?_cons_zero]; rfl) (fun K hK => ?_) ?_
          · go_simp
            have hM := below_alloc1 x (.cells #[.int .i64 0, .slice none 0 0] 32)
            have LT := hid hH.size
            have VT := hid (heap_alloc_new x (.cells #[.int .i64 0, .slice none 0 0] 32))
            refine hK.out _ _ (hH.alloc hH.size _) (fun hH => ?_)
            clear hK K hM
            generalize x.alloc (.cells #[.int .i64 0, .slice none 0 0] 32) = x5 at *
            obtain ⟨gt, hgt⟩ : ∃ g, g = x.heap.size := ⟨_, rfl⟩
            rw [← hgt] at VT LT ⊢
            clear hgt
            refine wpAnyH_ready (rs := [4]) (by kernel_rfl) (by simp) ?_
            refine AllReadyH.cons (by simp only [List.getElem?_toArray, List.getElem?_cons_succ, List.getElem?_cons_zero]; rfl) (fun K hK => ?_) AllReadyH.nil
            have VT0 := VT
            go_simp
            refine (ihopen lx hkn hsn hnx _ (l.drop 11) _ (RT'.out _ _ (HD.out.below hH)) YX.out (byt_dropz YL.out 11) L16.out (by have := HOK.out.1; omega) (by have := HOK.out.2.1; omega) (by have := HOK.out.2.2; omega)).mono ?_
            rintro e x4 ⟨v4, rfl, hO, hM⟩
            obtain ⟨p4, k4, rfl, -, -, -⟩ := hO.rd.parts
            have LO := hid hH.size
            have SB := hid hH.size
            refine hK.out _ _ (hH.trans (hM.mono hH.size)) (fun hH => ?_)
            clear hK K
            replace VT := hid (var_below hM VT.out)
            have OE := hid (OB.of hO)
            have LH4 := hid hM.size
            obtain ⟨cc, hcc⟩ : ∃ x, x = opC lx (nonceL hsn hnx) (headL hkn hsn hnx) (l.drop 11) := ⟨_, rfl⟩
            obtain ⟨m4, hm4⟩ : ∃ x, x = (opB lx (nonceL hsn hnx) (headL hkn hsn hnx) (l.drop 11)).length := ⟨_, rfl⟩
            rw [← hcc, ← hm4]
            rw [← hm4] at OE
            replace hcc := hid hcc
            replace hm4 := hid hm4
            clear hO
            clear hM SB
            have NT := hid (show gt < x5.heap.size ∨ x4.heap.size ≤ gt from .inl (var_lt VT0.out))
            clear LH4
            refine wpAnyH_ready (rs := [6]) (by kernel_rfl) (by simp) ?_
            refine AllReadyH.cons (by simp only [List.getElem?_toArray, List.getElem?_cons_succ, List.getElem?_cons_zero]; rfl) (fun K hK => ?_) AllReadyH.nil
            obtain ⟨e0, e1, e2, e3⟩ := var2_facts VT.out
            go_simp
            have VT2 := hid (var2_set (x' := .int .i64 cc) (y' := .slice p4 m4 k4) VT.out)
            have OE2 := hid ((OE.out.agr (fun k h1 h2 => Below.heap_setCell _ ⟨gt, 0, none⟩ (.int .i64 cc) k (by have := NT.out; show k ≠ gt; omega))).agr (fun k h1 h2 => Below.heap_setCell _ ⟨gt, 1, none⟩ (.slice p4 m4 k4) k (by have := NT.out; show k ≠ gt; omega)))
            refine hK.out _ _ ((hH.setCell (p := ⟨gt, 0, none⟩) LT.out _).setCell (p := ⟨gt, 1, none⟩) LT.out _) (fun hH => ?_)
            clear hK K e0 e1 e2 e3 VT OE
            generalize (x4.setCell ⟨gt, 0, none⟩ (.int .i64 cc)).setCell ⟨gt, 1, none⟩ (.slice p4 m4 k4) = x6 at *
            refine wpAnyH_done (by kernel_rfl) ?_ _
            have hB := hH
            clear hH d0 d1 d2
            have LV := hid (show g1 < _ from Nat.lt_of_lt_of_le (var_lt VR.out) LO.out)
            replace VH := hid (var_below hB VH.out)
            replace VR := hid (var_below hB VR.out)
            replace BB := hid (BB.out.trans (hB.mono BB.out.size))
            clear hB
            obtain ⟨t0, t1, -, -⟩ := var2_facts VT2.out
            obtain ⟨⟨d0, d1, d2⟩, -⟩ := var3_facts VH.out
            by_cases hz : cc = 0
            · subst hz
              obtain ⟨rfl, rfl, rfl, rfl, rfl⟩ := ol_ok HF.out hf.out.symm h2' j hj HX.out (by rw [← EL.out]; exact hcc.out.symm)
              go_wp2_with fail
              refine (iletter _ _ _ _ _ _ _).mono ?_
              rintro e x7 ⟨rfl, hB⟩
              clear d0 d1 d2 t0 t1
              replace VR := hid (var_below hB VR.out)
              replace OE2 := hid (OE2.out.below hB)
              replace BB := hid (BB.out.trans (hB.mono BB.out.size))
              clear hB
              obtain ⟨⟨r0, r1, r2, r3, r4⟩, y0, y1, y2, y3, y4⟩ := var5_facts VR.out
              have hset := hid (var5_set (v' := .int .i64 0) (x' := .int .i64 (hkn : Int)) (y' := .int .i64 (hsn : Int)) (z' := .int .i64 (hnx : Int)) (u' := .slice p4 m4 k4) VR.out)
              have hbel := hid (below_set5 (g := g1) (v := .int .i64 0) (x := .int .i64 (hkn : Int)) (y := .int .i64 (hsn : Int)) (z := .int .i64 (hnx : Int)) (u := .slice p4 m4 k4) BB.out LG.out)
              go_wp2
              try simp only [Exit.inBlock, Exit.then]
              exact bodyPost_ret (v := .agg #[.int .i64 0, .int .i64 (hkn : Int), .int .i64 (hsn : Int), .int .i64 (hnx : Int), .slice p4 m4 k4]) (results_cell_row rfl _ _ g1 40 _ _ _ rfl hset.out Try.underlying40 rfl (by kernel_rfl)) rfl ⟨_, rfl, EB.out ▸ (OB.of ((((((OE2.out.under ⟨g1, 0, none⟩ LV.out _).under ⟨g1, 1, none⟩ LV.out _).under ⟨g1, 2, none⟩ LV.out _).under ⟨g1, 3, none⟩ LV.out _).under ⟨g1, 4, none⟩ LV.out _)).1).mono (Nat.le_trans BB0.out.size LO.out) (Nat.le_refl _), hbel.out⟩
            · obtain ⟨rfl, rfl, rfl, rfl, rfl⟩ := ol_seal HF.out hf.out.symm h2' j hj HX.out (by rw [← EL.out]; exact fun q => hz (hcc.out.trans q))
              have ne : (cc != 0) = true := by rw [bne_iff_ne]; exact hz
              replace hz := hid hz
              obtain ⟨⟨r0, r1, r2, r3, r4⟩, y0, y1, y2, y3, y4⟩ := var5_facts VR.out
              have hset := hid (var5_set (v' := .int .i64 9) (x' := .int .i64 0) (y' := .int .i64 0) (z' := .int .i64 0) (u' := .slice none 0 0) VR.out)
              have hbel := hid (below_set5 (g := g1) (v := .int .i64 9) (x := .int .i64 0) (y := .int .i64 0) (z := .int .i64 0) (u := .slice none 0 0) BB.out LG.out)
              go_wp2
              try simp only [Exit.inBlock, Exit.then]
              exact bodyPost_ret (v := .agg #[.int .i64 9, .int .i64 0, .int .i64 0, .int .i64 0, .slice none 0 0]) (results_cell_row rfl _ _ g1 40 _ _ _ rfl hset.out Try.underlying40 rfl (by kernel_rfl)) rfl ⟨_, rfl, OB.nil _ _ _, hbel.out⟩
          exact AllReadyH.nil
        · have HS : tb = false := htb.out.trans (by
            cases q : Maps.has D (.int .i64 hk)
            · rfl
            · obtain ⟨j, hj, -, hx⟩ := (R1.out.has hk).1 q
              exact absurd ⟨j, hj, hx⟩ hh)
          subst HS
          obtain ⟨rfl, rfl, rfl, rfl, rfl⟩ := ol_none HF.out hf.out.symm h2' hh
          replace hh := hid hh
          clear VK2
          obtain ⟨⟨r0, r1, r2, r3, r4⟩, y0, y1, y2, y3, y4⟩ := var5_facts VR.out
          have hset := hid (var5_set (v' := .int .i64 4) (x' := .int .i64 0) (y' := .int .i64 0) (z' := .int .i64 0) (u' := .slice none 0 0) VR.out)
          have hbel := hid (below_set5 (g := g1) (v := .int .i64 4) (x := .int .i64 0) (y := .int .i64 0) (z := .int .i64 0) (u := .slice none 0 0) BB.out LG.out)
          go_wp2
          try simp only [Exit.inBlock, Exit.then]
          exact bodyPost_ret (v := .agg #[.int .i64 4, .int .i64 0, .int .i64 0, .int .i64 0, .slice none 0 0]) (results_cell_row rfl _ _ g1 40 _ _ _ rfl hset.out Try.underlying40 rfl (by kernel_rfl)) rfl ⟨_, rfl, OB.nil _ _ _, hbel.out⟩
      · obtain ⟨rfl, rfl, rfl⟩ := rh_bad HR.out h3
        obtain ⟨rfl, rfl, rfl, rfl, rfl⟩ := ol_head HF.out hf.out.symm h2' h3
        have ne : (c != 0) = true := by rw [bne_iff_ne]; exact h3
        replace h3 := hid h3
        obtain ⟨⟨r0, r1, r2, r3, r4⟩, y0, y1, y2, y3, y4⟩ := var5_facts VR.out
        have hset := hid (var5_set (v' := .int .i64 c) (x' := .int .i64 0) (y' := .int .i64 0) (z' := .int .i64 0) (u' := .slice none 0 0) VR.out)
        have hbel := hid (below_set5 (g := g1) (v := .int .i64 c) (x := .int .i64 0) (y := .int .i64 0) (z := .int .i64 0) (u := .slice none 0 0) BB.out LG.out)
        go_wp2
        try simp only [Exit.inBlock, Exit.then]
        exact bodyPost_ret (v := .agg #[.int .i64 c, .int .i64 0, .int .i64 0, .int .i64 0, .slice none 0 0]) (results_cell_row rfl _ _ g1 40 _ _ _ rfl hset.out Try.underlying40 rfl (by kernel_rfl)) rfl ⟨_, rfl, OB.nil _ _ _, hbel.out⟩
  · obtain ⟨hcc, rfl, rfl, rfl, rfl⟩ := ol_bad HF.out (fun q => h0 (hf.trans q))
    rw [← hf] at hcc
    subst hcc
    replace hf := hid hf
    have ne : (c != 0) = true := by rw [bne_iff_ne]; exact h0
    replace h0 := hid h0
    clear hr
    obtain ⟨⟨r0, r1, r2, r3, r4⟩, y0, y1, y2, y3, y4⟩ := var5_facts VR.out
    have hset := hid (var5_set (v' := .int .i64 c) (x' := .int .i64 0) (y' := .int .i64 0) (z' := .int .i64 0) (u' := .slice none 0 0) VR.out)
    have hbel := hid (below_set5 (g := g1) (v := .int .i64 c) (x := .int .i64 0) (y := .int .i64 0) (z := .int .i64 0) (u := .slice none 0 0) BB.out LG.out)
    go_wp2
    try simp only [Exit.inBlock, Exit.then]
    exact bodyPost_ret (v := .agg #[.int .i64 c, .int .i64 0, .int .i64 0, .int .i64 0, .slice none 0 0]) (results_cell_row rfl _ _ g1 40 _ _ _ rfl hset.out Try.underlying40 rfl (by kernel_rfl)) rfl ⟨_, rfl, OB.nil _ _ _, hbel.out⟩
end Go.Proofs.Ytckgjghpfjinfak.W
