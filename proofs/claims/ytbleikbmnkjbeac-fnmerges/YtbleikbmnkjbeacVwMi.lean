/-
  What merged and mergedViews of the program answer. Generated text.
-/
import Derived.Test.YtbleikbmnkjbeacVwIc
import Derived.Test.YtbleikbmnkjbeacVwG
import Derived.Test.YtbleikbmnkjbeacVwB
import Derived.Test.YtbleikbmnkjbeacVwP2
import Derived.Test.YtbleikbmnkjbeacVwFx
import Derived.Test.YtbleikbmnkjbeacVwMs
namespace Go.Proofs.Ytbleikbmnkjbeac.W
open Go.ChangeShapes Go.WideShapes Go.ChangeAt Go.RowKit
open Go.Proofs.Ytbleikbmnkjbeac.M

set_option maxHeartbeats 8000000 in
set_option maxRecDepth 100000 in
theorem imr (va vb : Value) (cs ds : List Clm) (w : World) (ha : RdC w va cs) (hb : RdC w vb ds) (h0 : vF cs = 0) (hd : ∀ c ∈ ds, clC c = 0) (hdl : ds.length ≤ 1048576) :
    Calls Try.prog 147 #[va, vb, .func (.func 114) #[] #[], .func (.func 43) #[] #[]] w fun e w' => ∃ u, e = .returned (.tuple #[u, .bool (mB cs ds ds.length)]) ∧ OwC w' w.heap.size u (mT cs ds ds.length) ∧ Below w.heap.size w w' := by
  have HA := hid ha
  have HB := hid hb
  have F0 := hid (mT_ok h0 hd)
  obtain ⟨a, ca, rfl, -, -, -⟩ := ha.parts
  obtain ⟨b, cb, rfl, -, -, -⟩ := hb.parts
  have L4 := hid (vF_ok h0).1
  clear ha hb hd h0
  go_enter Try.func147, Try.ntmps147
  go_wp2_with fail
  refine (clC' _ cs _ HA.out (by have := L4.out; omega)).mono ?_
  rintro e w1 ⟨u0, rfl, hO, hB⟩
  have O1 := hid (show OwC w1 w.heap.size u0 (mT cs ds 0) from hO)
  have B1 := hid hB
  clear hO hB
  go_wp2_with fail
  go_loopw [10, 11, 13, 14, 15, 20, 24, 33, 41] (fun s10 s11 s13 s14 s15 i s24 s33 s41 wr => ∃ k : Nat, ∃ u u13 u14 u15 u24 u33 u41 : Value, ∃ d : Bool, k ≤ ds.length ∧ i = .int .i64 k ∧ s10 = u ∧ s11 = .bool d ∧ s13 = u13 ∧ s14 = u14 ∧ s15 = u15 ∧ s24 = u24 ∧ s33 = u33 ∧ s41 = u41 ∧ Hid (d = mB cs ds k) ∧ Hid (Below w.heap.size w wr) ∧ Hid (OwC wr w.heap.size u (mT cs ds k))) (fun _ _ _ _ _ i _ _ _ _ => ds.length - (intOf i).toNat)
  case atStart => exact ⟨0, _, _, _, _, _, _, _, _, by omega, rfl, rfl, rfl, rfl, rfl, rfl, rfl, rfl, rfl, hid rfl, B1, O1⟩
  case round =>
    clear B1 O1
    obtain ⟨k, u, u13, u14, u15, u24, u33, u41, d, hk, rfl, rfl, rfl, rfl, rfl, rfl, rfl, rfl, rfl, hd, BL, OL⟩ := hrel
    by_cases hlt : k < ds.length
    · obtain ⟨a', cap', e, -, -, hcs⟩ := (HB.out.below BL.out).parts
      cases e
      obtain ⟨b, o, rfl, q1⟩ := hcs k hlt
      obtain ⟨c0, c1, c2, c3⟩ := c_cells q1
      have I1 := idx_ci b o ds.length cb k hlt
      have TS := hid (mT_succ cs ds k hlt)
      have BS := hid (mB_succ cs ds k hlt)
      have VO := hid (vF_ok (F0.out k))
      obtain ⟨X, hX⟩ : ∃ M, M = ds[k] := ⟨_, rfl⟩
      rw [← hX] at c0 c1 c2 c3 TS BS
      obtain ⟨T, hT⟩ : ∃ T, T = mT cs ds k := ⟨_, rfl⟩
      rw [← hT] at OL TS BS VO
      clear q1 hcs hX hT
      obtain ⟨pu, cu, rfl, -, -, -⟩ := OL.out.rd.parts
      have VA := hid (heap_alloc_new wr (.cells #[.int .i64 X.n, .int .i64 X.i, .int .i64 X.s, .int .i64 X.m] 45))
      have BA := hid (below_alloc1 wr (.cells #[.int .i64 X.n, .int .i64 X.i, .int .i64 X.s, .int .i64 X.m] 45))
      go_wp2_with fail
      replace OL := hid (OL.out.below BA.out)
      replace BL := hid (BL.out.trans (BA.out.mono BL.out.size))
      generalize wr.alloc (.cells #[.int .i64 X.n, .int .i64 X.i, .int .i64 X.s, .int .i64 X.m] 45) = wA at *
      generalize wr.heap.size = gx at *
      refine (ndof X _).mono ?_
      rintro e w2 ⟨rfl, hB⟩
      replace OL := hid (OL.out.below hB)
      replace VA := hid (var_below hB VA.out)
      replace BL := hid (BL.out.trans (hB.mono BL.out.size))
      clear hB c0 c1 c2 c3 I1 BA
      go_wp2_with fail
      refine (plo _ T X.n _ OL.out.rd (by have := VO.out.1; omega) VO.out.2.2).mono ?_
      rintro e w2 ⟨rfl, hB⟩
      replace OL := hid (OL.out.below hB)
      replace VA := hid (var_below hB VA.out)
      replace BL := hid (BL.out.trans (hB.mono BL.out.size))
      clear hB
      obtain ⟨⟨v0, v1, v2, v3⟩, -⟩ := var4_facts VA.out
      obtain ⟨hh, hhe⟩ : ∃ t, t = hasN T X.n := ⟨_, rfl⟩
      rw [← hhe]
      cases hh
      · have E1 := hid (show mrg T X = T.take (lb T X.n) ++ X :: T.drop (lb T X.n) by rw [mrg, ← hhe]; rfl)
        have E2 := hid (show mch T X = true by rw [mch, ← hhe]; rfl)
        have LB := hid (lb_le T X.n)
        generalize lb T X.n = m at *
        clear hhe
        have V5 := hid (heap_alloc_new w2 (.cells #[.int .i64 X.n, .int .i64 X.i, .int .i64 X.s, .int .i64 X.m] 45))
        have B5 := hid (below_alloc1 w2 (.cells #[.int .i64 X.n, .int .i64 X.i, .int .i64 X.s, .int .i64 X.m] 45))
        have O5 := hid (OL.out.below B5.out)
        have N5 := hid (show (Value.slice pu T.length cu).ownBlock ≠ some w2.heap.size from fun e => by have := OL.out.lt _ e; omega)
        have B6 := hid (BL.out.trans (B5.out.mono BL.out.size))
        go_wp2_with fail
        refine (insC _ T X m w.heap.size w2.heap.size _ O5.out V5.out N5.out LB.out VO.out.1 B6.out.size).mono ?_
        rintro e w3 ⟨g3, cap3, rfl, hO, hG⟩
        have B7 := hid (B6.out.grown hG B6.out.size (O5.out.row (Nat.le_refl _)))
        have O7 := hid (show OwC w3 w.heap.size _ (mT cs ds (k + 1)) by rw [TS.out, E1.out]; exact hO)
        have D7 := hid (show true = mB cs ds (k + 1) by rw [BS.out, E2.out]; simp)
        clear hO hG v0 v1 v2 v3 V5 B5 O5 N5
        go_wp2
        go_roundw
        case rel => exact ⟨k + 1, _, _, _, _, _, _, _, _, hlt, by go_num, rfl, rfl, rfl, rfl, rfl, rfl, rfl, rfl, D7, B7, O7⟩
        case measure => simp [intOf]; omega
      · obtain ⟨hml, -⟩ := hasN_yes hhe.symm
        have e2 : mch T X = bC X (T[lb T X.n]'hml) := by rw [mch, ← hhe]; simp [List.getD_eq_getElem?_getD, hml]
        have e3 : mrg T X = if bC X (T[lb T X.n]'hml) then T.set (lb T X.n) X else T := by rw [mrg, ← hhe]; simp [List.getD_eq_getElem?_getD, hml]
        generalize lb T X.n = m at *
        obtain ⟨gu, eu⟩ : ∃ g, Value.slice pu T.length cu = .slice (some ⟨g, 0, none⟩) T.length cu := by
          rcases OL.out.2 with ⟨-, e0⟩ | ⟨g, cp, cur, e0, -⟩
          · omega
          · cases e0; exact ⟨g, rfl⟩
        cases eu
        obtain ⟨dd, fz⟩ := OL.out.open rfl m hml
        obtain ⟨d0, d1, d2, d3⟩ := c_cells dd
        have I2 := idx_ci gu 0 T.length cu m hml
        rw [Nat.zero_add] at I2
        obtain ⟨A, hA⟩ : ∃ M, M = T[m] := ⟨_, rfl⟩
        rw [← hA] at d0 d1 d2 d3 e2 e3
        have E2 := hid e2
        have E3 := hid e3
        have m0 : (0 : Int) ≤ (m : Int) := by omega
        clear dd fz hA e2 e3 hhe
        go_wp2
        refine wp_region_held_drew (S := fun w' => Below w2.heap.size w2 w') (by kernel_rfl) (Below.refl _ _).drew (fun hH => ?_)
        refine wpAnyH_take (i := 0) (v := .func (.func 43) #[] #[]) (by simp only [List.getElem?_toArray, List.getElem?_cons_zero]; rfl) (by kernel_rfl) (by kernel_rfl) (by kernel_rfl) (by intro _ _ _ h; exact h) (Or.inl ⟨by rfl, fun w hS => by go_simp⟩) hH ?_
        simp only [Act.put, List.setIfInBounds_toArray, List.set_cons_zero, List.set_cons_succ]
        refine wpAnyH_take (i := 1) (v := .agg #[.int .i64 X.n, .int .i64 X.i, .int .i64 X.s, .int .i64 X.m]) (by simp only [List.getElem?_toArray, List.getElem?_cons_succ, List.getElem?_cons_zero]; rfl) (by kernel_rfl) (by kernel_rfl) (by kernel_rfl) (by intro _ _ _ h; exact h) (Or.inl ⟨by rfl, fun w hS => by (have y0 := cell_kept hS v0; have y1 := cell_kept hS v1; have y2 := cell_kept hS v2; have y3 := cell_kept hS v3; go_simp)⟩) hH ?_
        simp only [Act.put, List.setIfInBounds_toArray, List.set_cons_zero, List.set_cons_succ]
        refine wpAnyH_take (i := 2) (v := .slice (some ⟨gu, 0, none⟩) T.length cu) (by simp only [List.getElem?_toArray, List.getElem?_cons_succ, List.getElem?_cons_zero]; rfl) (by kernel_rfl) (by kernel_rfl) (by kernel_rfl) (by intro _ _ _ h; exact h) (Or.inl ⟨by rfl, fun w hS => by go_simp⟩) hH ?_
        simp only [Act.put, List.setIfInBounds_toArray, List.set_cons_zero, List.set_cons_succ]
        refine wpAnyH_take (i := 3) (v := .int .i64 (m : Int)) (by simp only [List.getElem?_toArray, List.getElem?_cons_succ, List.getElem?_cons_zero]; rfl) (by kernel_rfl) (by kernel_rfl) (by kernel_rfl) (by intro _ _ _ h; exact h) (Or.inl ⟨by rfl, fun w hS => by go_simp⟩) hH ?_
        simp only [Act.put, List.setIfInBounds_toArray, List.set_cons_zero, List.set_cons_succ]
        refine wpAnyH_take (i := 4) (v := .pointer (some ⟨gu, m * 4, none⟩)) (by simp only [List.getElem?_toArray, List.getElem?_cons_succ, List.getElem?_cons_zero]; rfl) (by kernel_rfl) (by kernel_rfl) (by kernel_rfl) (by intro _ _ _ h; exact h) (Or.inl ⟨by rfl, fun w hS => by go_simp⟩) hH ?_
        simp only [Act.put, List.setIfInBounds_toArray, List.set_cons_zero, List.set_cons_succ]
        refine wpAnyH_take (i := 5) (v := .agg #[.int .i64 A.n, .int .i64 A.i, .int .i64 A.s, .int .i64 A.m]) (by simp only [List.getElem?_toArray, List.getElem?_cons_succ, List.getElem?_cons_zero]; rfl) (by kernel_rfl) (by kernel_rfl) (by kernel_rfl) (by intro _ _ _ h; exact h) (Or.inl ⟨by rfl, fun w hS => by (have y0 := cell_kept hS d0; have y1 := cell_kept hS d1; have y2 := cell_kept hS d2; have y3 := cell_kept hS d3; go_simp)⟩) hH ?_
        simp only [Act.put, List.setIfInBounds_toArray, List.set_cons_zero, List.set_cons_succ]
        refine wpAnyH_ready (rs := [6]) (by kernel_rfl) (by simp) ?_
        refine AllReadyH.cons (by simp only [List.getElem?_toArray, List.getElem?_cons_succ, List.getElem?_cons_zero]; rfl) (fun K hK => ?_) AllReadyH.nil
        go_simp
        refine (ibt X A _).mono ?_
        rintro e x6 ⟨rfl, hM⟩
        refine hK.out _ _ (hH.trans (hM.mono hH.size)) (fun hH => ?_)
        clear hK K
        clear hM
        refine wpAnyH_take (i := 7) (v := .bool (bC X A)) (by simp only [List.getElem?_toArray, List.getElem?_cons_succ, List.getElem?_cons_zero]; rfl) (by kernel_rfl) (by kernel_rfl) (by kernel_rfl) (by intro _ _ _ h; exact h) (Or.inl ⟨by rfl, fun w hS => by go_simp⟩) hH ?_
        simp only [Act.put, List.setIfInBounds_toArray, List.set_cons_zero, List.set_cons_succ]
        refine wpAnyH_done (by kernel_rfl) ?_ _
        have hB := hH
        clear hH
        replace OL := hid (OL.out.below hB)
        replace VA := hid (var_below hB VA.out)
        replace BL := hid (BL.out.trans (hB.mono BL.out.size))
        clear hB v0 v1 v2 v3 d0 d1 d2 d3
        obtain ⟨t, ht⟩ : ∃ t, t = bC X A := ⟨_, rfl⟩
        rw [← ht] at E2 E3 ⊢
        clear ht
        cases t
        · have O7 := hid (show OwC _ w.heap.size _ (mT cs ds (k + 1)) by rw [TS.out, E3.out]; exact OL.out)
          have D7 := hid (show d = mB cs ds (k + 1) by rw [BS.out, E2.out, hd.out]; simp)
          go_wp2
          go_roundw
          case rel => exact ⟨k + 1, _, _, _, _, _, _, _, _, hlt, by go_num, rfl, rfl, rfl, rfl, rfl, rfl, rfl, rfl, D7, BL, O7⟩
          case measure => simp [intOf]; omega
        · obtain ⟨dd, fz⟩ := OL.out.open rfl m hml
          obtain ⟨d0, d1, d2, d3⟩ := c_cells dd
          obtain ⟨⟨v0, v1, v2, v3⟩, -⟩ := var4_facts VA.out
          have z0 := fz (m * 4)
          have z1 := fz (m * 4 + 1)
          have z2 := fz (m * 4 + 2)
          have z3 := fz (m * 4 + 3)
          have FN := OL.out.put rfl m hml X
          have BN := BL.out.grown (st4_grown _ gu (m * 4) X) BL.out.size (fun b e => by cases e; exact (OL.out.lt gu rfl).1)
          have O7 := hid (show OwC _ w.heap.size (.slice (some ⟨gu, 0, none⟩) T.length cu) (mT cs ds (k + 1)) by rw [TS.out, E3.out]; exact FN)
          have B7 := hid BN
          have D7 := hid (show true = mB cs ds (k + 1) by rw [BS.out, E2.out]; simp)
          unfold st4 at O7 B7
          clear dd fz FN BN OL BL
          go_wp2
          go_roundw
          case rel => exact ⟨k + 1, _, _, _, _, _, _, _, _, hlt, by go_num, rfl, rfl, rfl, rfl, rfl, rfl, rfl, rfl, D7, B7, O7⟩
          case measure => simp [intOf]; omega
    · have hke : k = ds.length := by omega
      subst hke
      obtain ⟨pu, cu, rfl, -, -, -⟩ := OL.out.rd.parts
      obtain ⟨T, hT⟩ : ∃ T, T = mT cs ds ds.length := ⟨_, rfl⟩
      rw [← hT] at OL ⊢
      replace hT := hid hT
      go_wp2
      go_ret2
      exact ⟨.slice pu T.length cu, ret_ub hd.out, by rw [← hT.out]; exact OL.out, BL.out⟩
set_option maxHeartbeats 1000000 in
set_option maxRecDepth 100000 in
theorem imv (va vb : Value) (cs ds : List Clm) (w : World) (ha : RdC w va cs) (hb : RdC w vb ds) (h0 : vF cs = 0) (hd : ∀ c ∈ ds, clC c = 0) (hdl : ds.length ≤ 1048576) :
    Calls Try.prog 109 #[va, vb] w fun e w' => ∃ u, e = .returned (.agg #[.int .i64 0, u, .bool (mB cs ds ds.length)]) ∧ OwC w' (w.heap.size + 1) u (mT cs ds ds.length) ∧ Below w.heap.size w w' := by
  have HA := hid ha
  have HB := hid hb
  have H0 := hid h0
  have HD := hid hd
  obtain ⟨a, ca, rfl, -, -, -⟩ := ha.parts
  obtain ⟨b, cb, rfl, -, -, -⟩ := hb.parts
  clear ha hb hd h0
  go_enter Try.func109, Try.ntmps109
  have V := hid (heap_alloc_new w (.cells #[.int .i64 0, .slice none 0 0, .bool false] 75))
  have BB := hid (below_alloc1 w (.cells #[.int .i64 0, .slice none 0 0, .bool false] 75))
  go_wp2_with fail
  refine (imr _ _ cs ds _ (HA.out.below BB.out) (HB.out.below BB.out) H0.out HD.out hdl).mono ?_
  rintro e w1 ⟨u, rfl, hO, hB⟩
  simp only [World.size_alloc] at hO
  have V1 := var_below hB V.out
  have B1 := BB.out.trans (hB.mono BB.out.size)
  obtain ⟨pu, cu, rfl, -, -, -⟩ := hO.rd.parts
  obtain ⟨T, hT⟩ : ∃ T, T = mT cs ds ds.length := ⟨_, rfl⟩
  obtain ⟨t, ht⟩ : ∃ t, t = mB cs ds ds.length := ⟨_, rfl⟩
  rw [← hT, ← ht]
  rw [← hT] at hO
  replace hT := hid hT
  replace ht := hid ht
  obtain ⟨⟨z0, z1, z2⟩, z3, z4, z5⟩ := var3_facts V1
  have HS := hid (var3_set (x' := .int .i64 0) (y' := .slice pu T.length cu) (z' := .bool t) V1)
  have HW := hid (below_st3 (.int .i64 0) (.slice pu T.length cu) (.bool t) B1 (Nat.le_refl _))
  have HO := hid (hO.st3 (Nat.lt_succ_self _) (.int .i64 0) (.slice pu T.length cu) (.bool t))
  clear V BB hB hO V1 B1
  go_wp2
  exact bodyPost_ret (v := .agg #[.int .i64 0, .slice pu T.length cu, .bool t]) (results_cell_row rfl _ _ w.heap.size 75 _ _ _ rfl HS.out Try.underlying75 rfl (by kernel_rfl)) rfl ⟨_, by rw [ht.out], by rw [← hT.out]; exact HO.out, HW.out⟩
end Go.Proofs.Ytbleikbmnkjbeac.W
