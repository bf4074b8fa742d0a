/-
  Who helps: what HelpersFor of the program answers.
-/
import Derived.WalkMore
import Derived.Test.YtalaolfcdaaaoaaHpS
import Derived.Test.YtalaolfcdaaaoaaSpnW
import Derived.Test.YtalaolfcdaaaoaaVwV
namespace Go.Proofs.Ytalaolfcdaaaoaa.W
open Go.ChangeShapes Go.WideShapes Go.ChangeAt Go.RowKit
open Go.Proofs.Ytalaolfcdaaaoaa.M

set_option maxHeartbeats 4000000 in
set_option maxRecDepth 100000 in
theorem ihp (v : Value) (cs : List Clm) (self target most : Int) (w : World) (h : RdC w v cs) (hl : cs.length ≤ 4) (hm0 : 0 ≤ most) (hm4 : most ≤ 4) :
    Calls Try.prog 70 #[v, .int .i64 self, .int .i64 target, .int .i64 most] w fun e w' => ∃ u, e = .returned u ∧ OwZ w' w.heap.size u ((hpL self target cs).take most.toNat) ∧ Below w.heap.size w w' := by
  have H := hid h
  obtain ⟨a, cap, rfl, -, -, -⟩ := h.parts
  clear h
  go_enter Try.func70, Try.ntmps70
  go_wp2_with fail
  go_step3
  go_wp2_with fail
  go_step3
  go_wp2_with fail
  go_loopw [9, 11, 14] (fun s9 s11 i wr => ∃ k : Nat, ∃ u9 u11 : Value, k ≤ cs.length ∧ i = .int .i64 k ∧ s9 = u9 ∧ s11 = u11 ∧ Hid (OwZ wr w.heap.size u9 (hpL self target (cs.take k))) ∧ Hid ((hpL self target (cs.take k)).length ≤ most.toNat) ∧ Hid (Below w.heap.size w wr)) (fun _ _ i _ => cs.length - (intOf i).toNat)
  case atStart => exact ⟨0, _, _, by omega, rfl, rfl, rfl, hid (OwZ.nil _ _), hid (Nat.zero_le _), hid (Below.refl _ _)⟩
  case round =>
    obtain ⟨k, u9, u11, hk, rfl, rfl, rfl, OO, LM, BL⟩ := hrel
    have LK := hid (show (hpL self target (cs.take k)).length ≤ 4 from Nat.le_trans (hpL_len _ _ _) (by simp; omega))
    by_cases hlt : k < cs.length
    · have TF := hid fun q => hpL_full (self := self) (target := target) (cs := cs) (k := k) (m := most.toNat) q
      have TY := hid fun q => hpL_yes (self := self) (target := target) hlt q
      have TN := hid fun q => hpL_no (self := self) (target := target) hlt q
      obtain ⟨x, hx⟩ : ∃ x, x = hpL self target (cs.take k) := ⟨_, rfl⟩
      rw [← hx] at OO LM LK TF TY TN
      clear hx
      obtain ⟨px, cx, rfl, -, -, -⟩ := OO.out.rd.parts
      obtain ⟨a', cap', e, -, -, hcs⟩ := (H.out.below BL.out).parts
      cases e
      obtain ⟨b, o, rfl, q1⟩ := hcs k hlt
      obtain ⟨c0, c1, c2, c3⟩ := c_cells q1
      have I1 := idx_ci b o cs.length cap k hlt
      obtain ⟨M, hM⟩ : ∃ M, M = cs[k] := ⟨_, rfl⟩
      rw [← hM] at c0 c1 c2 c3 TY TN
      clear q1 hcs hM
      have x4 : (x.length : Int) ≤ 4 := by have := LK.out; omega
      by_cases hf : x.length = most.toNat
      · have E := hid (TF.out hf)
        have em : (x.length : Int) = most := by omega
        have lm : ((x.length : Int) < most) = False := by simp; omega
        have lq : ((x.length : Int) == most) = true := by simp; omega
        replace em := hid em
        replace hf := hid hf
        clear TF TY TN lm
        have B1 := hid (below_alloc1 wr (.cells #[.int .i64 M.n, .int .i64 M.i, .int .i64 M.s, .int .i64 M.m] 38))
        go_wp2
        try rw [Exit.noGoto_ret]
        go_ret
        exact ⟨_, rfl, by rw [E.out]; exact OO.out.below B1.out, BL.out.trans (B1.out.mono BL.out.size)⟩
      · have lm : (x.length : Int) < most := by have := LM.out; omega
        have lq : ((x.length : Int) == most) = false := by simp; omega
        replace hf := hid hf
        clear TF
        replace lm := hid lm
        have B1 := hid (below_alloc2 wr (.cells #[.int .i64 M.n, .int .i64 M.i, .int .i64 M.s, .int .i64 M.m] 38) (.cells #[.int .i64 M.n] 2))
        have B0 := hid (below_alloc1 wr (.cells #[.int .i64 M.n, .int .i64 M.i, .int .i64 M.s, .int .i64 M.m] 38))
        have RN := rdZ_one (wr.alloc (.cells #[.int .i64 M.n, .int .i64 M.i, .int .i64 M.s, .int .i64 M.m] 38)) M.n 2
        simp only [World.size_alloc] at RN
        replace RN := hid RN
        have LA := hid (show x.length + [M.n].length ≤ 4194304 by have := LK.out; simp; omega)
        have O2 := hid (OO.out.below B1.out)
        have S2 := hid (show w.heap.size ≤ ((wr.alloc (.cells #[.int .i64 M.n, .int .i64 M.i, .int .i64 M.s, .int .i64 M.m] 38)).alloc (.cells #[.int .i64 M.n] 2)).heap.size by have := BL.out.size; simp; omega)
        have B2 := hid (BL.out.trans (B1.out.mono BL.out.size))
        by_cases qs : M.s = 0
        · by_cases q1 : M.n = self
          · have T := hid (TN.out (by unfold okH; simp [q1]))
            have n0 : (M.s == 0) = true := by simp [qs]
            have n1 : (M.n != self) = false := by simp [q1]
            replace qs := hid qs
            replace q1 := hid q1
            clear TY TN
            have BN := hid (BL.out.trans (B0.out.mono BL.out.size))
            have ON := hid (OO.out.below B0.out)
            clear O2 S2 B2 RN LA
            go_wp2
            go_roundw
            case rel => exact ⟨k + 1, _, _, hlt, by go_num, rfl, rfl, hid (by rw [T.out]; exact ON.out), hid (by rw [T.out]; exact LM.out), BN⟩
            case measure => simp [intOf] <;> omega
          · by_cases q2 : M.n = target
            · have T := hid (TN.out (by unfold okH; simp [q2]))
              have n0 : (M.s == 0) = true := by simp [qs]
              have n1 : (M.n != self) = true := by simp [q1]
              have n2 : (M.n != target) = false := by simp [q2]
              replace qs := hid qs
              replace q1 := hid q1
              replace q2 := hid q2
              clear TY TN
              have BN := hid (BL.out.trans (B0.out.mono BL.out.size))
              have ON := hid (OO.out.below B0.out)
              clear O2 S2 B2 RN LA
              go_wp2
              go_roundw
              case rel => exact ⟨k + 1, _, _, hlt, by go_num, rfl, rfl, hid (by rw [T.out]; exact ON.out), hid (by rw [T.out]; exact LM.out), BN⟩
              case measure => simp [intOf] <;> omega
            · have T := hid (TY.out (by unfold okH; simp [qs, q1, q2]))
              have n0 : (M.s == 0) = true := by simp [qs]
              have n1 : (M.n != self) = true := by simp [q1]
              have n2 : (M.n != target) = true := by simp [q2]
              replace qs := hid qs
              replace q1 := hid q1
              replace q2 := hid q2
              clear TY TN
              have LN := hid (show (x ++ [M.n]).length ≤ most.toNat by have := LM.out; have := lm.out; simp; omega)
              go_wp2_with (at_builtin; refine list_appZ rfl _ _ rfl _ _ x [M.n] w.heap.size rfl rfl O2.out RN.out LA.out S2.out ?_; intro v3 w3 hO hG; rw [← T.out] at hO; obtain ⟨pq, cq, rfl, -, -, -⟩ := hO.rd.parts)
              have B3 := hid (B2.out.grown hG S2.out (O2.out.row (Nat.le_refl _)))
              have O3 := hid hO
              clear hO hG O2 S2 B2 RN c0 c1 c2 c3 I1
              go_roundw
              case rel => exact ⟨k + 1, _, _, hlt, by go_num, rfl, rfl, O3, hid (by rw [T.out]; exact LN.out), B3⟩
              case measure => simp [intOf] <;> omega
        · have T := hid (TN.out (by unfold okH; simp [qs]))
          have n0 : (M.s == 0) = false := by simp [qs]
          replace qs := hid qs
          clear TY TN
          have BN := hid (BL.out.trans (B0.out.mono BL.out.size))
          have ON := hid (OO.out.below B0.out)
          clear O2 S2 B2 RN LA
          go_wp2
          go_roundw
          case rel => exact ⟨k + 1, _, _, hlt, by go_num, rfl, rfl, hid (by rw [T.out]; exact ON.out), hid (by rw [T.out]; exact LM.out), BN⟩
          case measure => simp [intOf] <;> omega
    · have hke : k = cs.length := by omega
      subst hke
      rw [List.take_length] at OO LM
      have E := hid (hpL_end LM.out)
      obtain ⟨px, cx, rfl, -, -, -⟩ := OO.out.rd.parts
      go_wp2
      try rw [Exit.noGoto_ret]
      go_ret
      exact ⟨_, rfl, by rw [E.out]; exact OO.out, BL.out⟩
set_option maxHeartbeats 2000000 in
set_option maxRecDepth 100000 in
theorem ihf (v : Value) (cs : List Clm) (self target most : Int) (w : World) (h : RdC w v cs) :
    Calls Try.prog 13 #[v, .int .i64 self, .int .i64 target, .int .i64 most] w fun e w' => ∃ u, e = .returned (.agg #[.int .i64 (hpC cs self target most), u]) ∧ OwZ w' w.heap.size u (hpR cs self target most) ∧ Below w.heap.size w w' := by
  have H := hid (h.below (below_alloc1 w (.cells #[.int .i64 0, .slice none 0 0] 34)))
  obtain ⟨a, cap, rfl, -, -, -⟩ := h.parts
  clear h
  have V := hid (heap_alloc_new w (.cells #[.int .i64 0, .slice none 0 0] 34))
  have BB := hid (below_alloc1 w (.cells #[.int .i64 0, .slice none 0 0] 34))
  go_enter Try.func13, Try.ntmps13
  go_wp2_with fail
  generalize w.alloc (.cells #[.int .i64 0, .slice none 0 0] 34) = w0 at *
  obtain ⟨g, hg⟩ : ∃ g, g = w.heap.size := ⟨_, rfl⟩
  have LG := hid (show w.heap.size ≤ g by omega)
  rw [← hg] at V ⊢
  replace hg := hid hg
  refine (ivf _ cs _ H.out).mono ?_
  rintro e w1 ⟨rfl, hB⟩
  replace H := hid (H.out.below hB)
  replace V := hid (var_below hB V.out)
  replace BB := hid (BB.out.trans (hB.mono BB.out.size))
  clear hB
  obtain ⟨t, ht⟩ : ∃ t, t = vF cs := ⟨_, rfl⟩
  rw [← ht]
  replace ht := hid ht
  by_cases h0 : t = 0
  case neg =>
    have E1 := hid (show hpC cs self target most = t by unfold hpC; rw [if_neg (by rw [← ht.out]; exact h0), ht.out])
    have E2 := hid (show hpR cs self target most = [] by unfold hpR; rw [if_neg (by rw [E1.out]; exact h0)])
    obtain ⟨q0, q1, z0, z1⟩ := var2_facts V.out
    have V2 := hid (var2_set (x' := .int .i64 t) (y' := .slice none 0 0) V.out)
    have B2 := hid (below_set2 (x := .int .i64 t) (y := .slice none 0 0) BB.out LG.out)
    go_wp2
    exact bodyPost_ret (v := .agg #[.int .i64 t, .slice none 0 0]) (results_cell_row rfl _ _ g 34 _ _ _ rfl V2.out Try.underlying34 rfl (by kernel_rfl)) rfl ⟨_, by rw [E1.out], by rw [E2.out]; exact OwZ.nil _ _, B2.out⟩
  subst h0
  go_wp2_with fail
  refine (nspan _ _).mono ?_
  rintro e w2 ⟨rfl, hB⟩
  replace H := hid (H.out.below hB)
  replace V := hid (var_below hB V.out)
  replace BB := hid (BB.out.trans (hB.mono BB.out.size))
  clear hB
  go_wp2_with fail
  refine (nspan _ _).mono ?_
  rintro e w3 ⟨rfl, hB⟩
  replace H := hid (H.out.below hB)
  replace V := hid (var_below hB V.out)
  replace BB := hid (BB.out.trans (hB.mono BB.out.size))
  clear hB
  have VP := hid (heap_alloc_new w3 (.cells (rowSp [(self, 0, 3), (target, 0, 3), (most, 0, 4)]).toArray 100))
  have hB := below_alloc1 w3 (.cells #[.int .i64 self, .int .i64 0, .int .i64 3, .int .i64 target, .int .i64 0, .int .i64 3, .int .i64 most, .int .i64 0, .int .i64 4] 100)
  replace H := hid (H.out.below hB)
  replace V := hid (var_below hB V.out)
  replace BB := hid (BB.out.trans (hB.mono BB.out.size))
  clear hB
  go_wp2_with fail
  refine (withinL [(self, 0, 3), (target, 0, 3), (most, 0, 4)] (by simp) _ _ VP.out).mono ?_
  rintro e w4 ⟨rfl, hB⟩
  replace H := hid (H.out.below hB)
  replace V := hid (var_below hB V.out)
  replace BB := hid (BB.out.trans (hB.mono BB.out.size))
  clear hB
  clear VP
  rw [show inS [(self, 0, 3), (target, 0, 3), (most, 0, 4)] = (inB self 0 3 && (inB target 0 3 && inB most 0 4)) by simp [inS]]
  obtain ⟨r, hr⟩ : ∃ r, r = (inB self 0 3 && (inB target 0 3 && inB most 0 4)) := ⟨_, rfl⟩
  rw [← hr]
  replace hr := hid hr
  cases r
  case false =>
    have E1 := hid (show hpC cs self target most = 3 by unfold hpC; rw [if_pos ht.out.symm, ← hr.out]; rfl)
    have E2 := hid (show hpR cs self target most = [] by unfold hpR; rw [if_neg (by rw [E1.out]; decide)])
    obtain ⟨q0, q1, z0, z1⟩ := var2_facts V.out
    have V2 := hid (var2_set (x' := .int .i64 3) (y' := .slice none 0 0) V.out)
    have B2 := hid (below_set2 (x := .int .i64 3) (y := .slice none 0 0) BB.out LG.out)
    go_wp2
    exact bodyPost_ret (v := .agg #[.int .i64 3, .slice none 0 0]) (results_cell_row rfl _ _ g 34 _ _ _ rfl V2.out Try.underlying34 rfl (by kernel_rfl)) rfl ⟨_, by rw [E1.out], by rw [E2.out]; exact OwZ.nil _ _, B2.out⟩
  have E1 := hid (show hpC cs self target most = 0 by unfold hpC; rw [if_pos ht.out.symm, ← hr.out]; rfl)
  have MB := hid (show 0 ≤ most ∧ most ≤ 4 by have := hr.out.symm; simp only [Bool.and_eq_true, inB, decide_eq_true_eq] at this; exact this.2.2)
  have E2 := hid (show hpR cs self target most = (hpL self target cs).take most.toNat by unfold hpR; rw [if_pos E1.out])
  have HL := hid (vF_ok ht.out.symm).1
  have GV := hid (var_lt V.out)
  go_wp2_with fail
  refine (ihp _ cs self target most _ H.out HL.out MB.out.1 MB.out.2).mono ?_
  rintro e w5 ⟨u, rfl, hO, hB⟩
  obtain ⟨pu, ku, rfl, -, -, -⟩ := hO.rd.parts
  have RO := hid hO
  clear hO
  replace H := hid (H.out.below hB)
  replace V := hid (var_below hB V.out)
  replace BB := hid (BB.out.trans (hB.mono BB.out.size))
  clear hB
  rw [← E2.out] at RO
  rw [← E2.out]
  obtain ⟨xs, hxs⟩ : ∃ z, z = hpR cs self target most := ⟨_, rfl⟩
  rw [← hxs] at RO
  rw [← hxs]
  clear E2
  replace hxs := hid hxs
  have ON := hid (show OwZ ((w5.setCell ⟨g, 0, none⟩ (.int .i64 0)).setCell ⟨g, 1, none⟩ (.slice pu xs.length ku)) _ (.slice pu xs.length ku) xs from ownsRow_setCell_below (ownsRow_setCell_below RO.out (a := ⟨g, 0, none⟩) GV.out _) (a := ⟨g, 1, none⟩) GV.out _)
  obtain ⟨q0, q1, z0, z1⟩ := var2_facts V.out
  have V2 := hid (var2_set (x' := .int .i64 0) (y' := .slice pu xs.length ku) V.out)
  have B2 := hid (below_set2 (x := .int .i64 0) (y := .slice pu xs.length ku) BB.out LG.out)
  go_wp2
  exact bodyPost_ret (v := .agg #[.int .i64 0, .slice pu xs.length ku]) (results_cell_row rfl _ _ g 34 _ _ _ rfl V2.out Try.underlying34 rfl (by kernel_rfl)) rfl ⟨_, by rw [E1.out], by rw [← hxs.out]; exact ON.out.mono (Nat.le_of_lt (Nat.lt_of_le_of_lt LG.out GV.out)), B2.out⟩
end Go.Proofs.Ytalaolfcdaaaoaa.W
