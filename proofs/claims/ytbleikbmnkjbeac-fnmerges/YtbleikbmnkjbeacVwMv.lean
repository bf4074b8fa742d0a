/-
  What MergeViews of the model answers. Generated text.
-/
import Derived.Test.YtbleikbmnkjbeacVwMs
import Derived.Test.YtbleikbmnkjbeacVwMi
import Derived.Test.YtbleikbmnkjbeacVwV
import Derived.Test.YtbleikbmnkjbeacVwFx
namespace Go.Proofs.Ytbleikbmnkjbeac.W
open Go.ChangeShapes Go.WideShapes Go.ChangeAt Go.RowKit
open Go.Proofs.Ytbleikbmnkjbeac.M

/-- What is told of two views that are merged. -/
def mvC (cs ds : List Clm) : Int := if vF cs ≠ 0 then vF cs else vF ds
def mvL (cs ds : List Clm) : List Clm := if vF cs = 0 ∧ vF ds = 0 then mT cs ds ds.length else []
def mvT (cs ds : List Clm) : Bool := decide (vF cs = 0) && decide (vF ds = 0) && mB cs ds ds.length
theorem mv_no {cs ds : List Clm} (h : mvC cs ds ≠ 0) : mvL cs ds = [] ∧ mvT cs ds = false := by
  unfold mvC at h
  unfold mvL mvT
  by_cases q : vF cs = 0
  · rw [if_neg (by simpa using q)] at h
    exact ⟨if_neg (fun r => h r.2), by simp [q, h]⟩
  · exact ⟨if_neg (fun r => q r.1), by simp [q]⟩
theorem mv_yes {cs ds : List Clm} (h : vF cs = 0) (h2 : vF ds = 0) : mvC cs ds = 0 ∧ mvL cs ds = mT cs ds ds.length ∧ mvT cs ds = mB cs ds ds.length :=
  ⟨by rw [mvC, if_neg (by simpa using h), h2], if_pos ⟨h, h2⟩, by simp [mvT, h, h2]⟩
theorem var3_set12 {w' : World} {g : Nat} {x y z y' z' : Value} {T : TypeId} (h : w'.heap[g]? = some (.cells #[x, y, z] T)) :
    ((w'.setCell ⟨g, 1, none⟩ y').setCell ⟨g, 2, none⟩ z').heap[g]? = some (.cells #[x, y', z'] T) := by
  have h1 := heap_setCell_same w' g 1 _ T y' h
  have h2 := heap_setCell_same _ g 2 _ T z' h1
  simpa using h2
theorem var_other {w : World} {g g' i : Nat} {o : Obj} (h : w.heap[g]? = some o) (hne : g ≠ g') (x : Value) : (w.setCell ⟨g', i, none⟩ x).heap[g]? = some o :=
  var_grown (set_grown w g' i x) h (fun e => hne (Option.some.inj e))
theorem OwC.other {w : World} {base g' i : Nat} {v : Value} {cs : List Clm} (h : OwC w base v cs) (hne : v.ownBlock ≠ some g') (x : Value) : OwC (w.setCell ⟨g', i, none⟩ x) base v cs :=
  h.kept (set_grown w g' i x) (.inr hne)
set_option maxHeartbeats 8000000 in
set_option maxRecDepth 100000 in
theorem smv (va vb : Value) (cs ds : List Clm) (w : World) (ha : RdC w va cs) (hb : RdC w vb ds) :
    Calls Try.prog 53 #[va, vb] w fun e w' => ∃ u, e = .returned (.agg #[.int .i64 (mvC cs ds), u, .bool (mvT cs ds)]) ∧ RdC w' u (mvL cs ds) ∧ Below w.heap.size w w' := by
  have HA := hid ha
  have HB := hid hb
  have H0 := hid hb
  obtain ⟨a, ca, rfl, -, -, -⟩ := ha.parts
  obtain ⟨b, cb, rfl, -, -, -⟩ := hb.parts
  clear ha hb
  go_enter Try.func53, Try.ntmps53
  have V := hid (heap_alloc_new w (.cells #[.int .i64 0, .slice none 0 0, .bool false] 75))
  have BB := hid (below_alloc1 w (.cells #[.int .i64 0, .slice none 0 0, .bool false] 75))
  go_wp2_with fail
  generalize w.alloc (.cells #[.int .i64 0, .slice none 0 0, .bool false] 75) = w0 at *
  replace HA := hid (HA.out.below BB.out)
  replace HB := hid (HB.out.below BB.out)
  have LT := hid (var_lt V.out)
  obtain ⟨g, hg⟩ : ∃ g, g = w.heap.size := ⟨_, rfl⟩
  rw [← hg] at V LT ⊢
  have GL := hid (show w.heap.size ≤ g by omega)
  clear hg
  refine (svf _ cs _ HA.out).mono ?_
  rintro e w1 ⟨rfl, hB⟩
  replace V := hid (var_below hB V.out)
  replace HA := hid (HA.out.below hB)
  replace HB := hid (HB.out.below hB)
  replace BB := hid (BB.out.trans (hB.mono BB.out.size))
  replace LT := hid (Nat.lt_of_lt_of_le LT.out hB.size)
  clear hB
  obtain ⟨t, ht⟩ : ∃ t, t = vF cs := ⟨_, rfl⟩
  rw [← ht]
  by_cases h0 : t = 0
  case neg =>
    have ne : (t != 0) = true := by rw [bne_iff_ne]; exact h0
    have E := hid (show mvC cs ds = t by rw [mvC, if_pos (by rw [← ht]; exact h0), ht])
    have EL := hid (mv_no (cs := cs) (ds := ds) (by rw [E.out]; exact h0))
    obtain ⟨⟨z0, z1, z2⟩, z3, z4, z5⟩ := var3_facts V.out
    have HS := hid (var3_set (x' := .int .i64 t) (y' := .slice none 0 0) (z' := .bool false) V.out)
    have HW := hid (below_st3 (.int .i64 t) (.slice none 0 0) (.bool false) BB.out GL.out)
    clear ht h0
    go_wp2
    exact bodyPost_ret (v := .agg #[.int .i64 t, .slice none 0 0, .bool false]) (results_cell_row rfl _ _ g 75 _ _ _ rfl HS.out Try.underlying75 rfl (by kernel_rfl)) rfl ⟨_, by rw [E.out, EL.out.2], by rw [EL.out.1]; exact RdC.nil _, HW.out⟩
  subst h0
  have F0 := hid ht.symm
  clear ht
  go_wp2_with fail
  refine (svf _ ds _ HB.out).mono ?_
  rintro e w2 ⟨rfl, hB⟩
  replace V := hid (var_below hB V.out)
  replace HA := hid (HA.out.below hB)
  replace HB := hid (HB.out.below hB)
  replace BB := hid (BB.out.trans (hB.mono BB.out.size))
  replace LT := hid (Nat.lt_of_lt_of_le LT.out hB.size)
  clear hB
  obtain ⟨t, ht⟩ : ∃ t, t = vF ds := ⟨_, rfl⟩
  rw [← ht]
  by_cases h0 : t = 0
  case neg =>
    have ne : (t != 0) = true := by rw [bne_iff_ne]; exact h0
    have E := hid (show mvC cs ds = t by rw [mvC, if_neg (by simpa using F0.out), ht])
    have EL := hid (mv_no (cs := cs) (ds := ds) (by rw [E.out]; exact h0))
    obtain ⟨⟨z0, z1, z2⟩, z3, z4, z5⟩ := var3_facts V.out
    have HS := hid (var3_set (x' := .int .i64 t) (y' := .slice none 0 0) (z' := .bool false) V.out)
    have HW := hid (below_st3 (.int .i64 t) (.slice none 0 0) (.bool false) BB.out GL.out)
    clear ht h0
    go_wp2
    exact bodyPost_ret (v := .agg #[.int .i64 t, .slice none 0 0, .bool false]) (results_cell_row rfl _ _ g 75 _ _ _ rfl HS.out Try.underlying75 rfl (by kernel_rfl)) rfl ⟨_, by rw [E.out, EL.out.2], by rw [EL.out.1]; exact RdC.nil _, HW.out⟩
  subst h0
  have F1 := hid ht.symm
  have E := hid (mv_yes F0.out F1.out)
  have MO := hid (mT_ok F0.out (vF_ok F1.out).2.1)
  have hdl : ds.length ≤ 4 := (vF_ok F1.out).1
  clear ht
  go_wp2_with fail
  refine (s8c _ cs _ HA.out (by have := (vF_ok F0.out).1; omega)).mono ?_
  rintro e w3 ⟨u0, rfl, hO, hB⟩
  have O3 := hid (hO.mono (show g + 1 ≤ w2.heap.size from LT.out))
  replace V := hid (var_below hB V.out)
  replace HA := hid (HA.out.below hB)
  replace HB := hid (HB.out.below hB)
  replace BB := hid (BB.out.trans (hB.mono BB.out.size))
  replace LT := hid (Nat.lt_of_lt_of_le LT.out hB.size)
  clear hB
  clear hO
  obtain ⟨pu0, cu0, rfl, -, -, -⟩ := O3.out.rd.parts
  have VG := hid (heap_alloc_new w3 (.cells #[.int .i64 0, .slice pu0 cs.length cu0, .bool false] 75))
  have BG := hid (below_alloc1 w3 (.cells #[.int .i64 0, .slice pu0 cs.length cu0, .bool false] 75))
  have N3 := hid (show (Value.slice pu0 cs.length cu0).ownBlock ≠ some w3.heap.size from fun e => by have := O3.out.lt _ e; omega)
  go_wp2_with fail
  generalize w3.alloc (.cells #[.int .i64 0, .slice pu0 cs.length cu0, .bool false] 75) = w4 at *
  replace O3 := hid (O3.out.below BG.out)
  replace V := hid (var_below BG.out V.out)
  replace BB := hid (BB.out.trans (BG.out.mono BB.out.size))
  obtain ⟨go, hgo⟩ : ∃ g, g = w3.heap.size := ⟨_, rfl⟩
  rw [← hgo] at VG N3 ⊢
  have GN := hid (show g ≠ go by have := LT.out; omega)
  have GO := hid (show w.heap.size ≤ go by have := LT.out; have := GL.out; omega)
  clear hgo BG LT HA HB
  go_loopw [8, 9, 10, 32] (fun i s9 s10 s32 wr => ∃ k : Nat, ∃ u9 u10 u32 u : Value, ∃ d : Bool, k ≤ ds.length ∧ i = .int .i64 k ∧ s9 = u9 ∧ s10 = u10 ∧ s32 = u32 ∧ Hid (wr.heap[go]? = some (.cells #[.int .i64 0, u, .bool d] 75)) ∧ Hid (d = mB cs ds k) ∧ Hid (OwC wr (g + 1) u (mT cs ds k)) ∧ Hid (u.ownBlock ≠ some go) ∧ Hid (wr.heap[g]? = some (.cells #[.int .i64 0, .slice none 0 0, .bool false] 75)) ∧ Hid (Below w.heap.size w wr)) (fun i _ _ _ _ => ds.length - (intOf i).toNat)
  case atStart => exact ⟨0, _, _, _, _, _, by omega, rfl, rfl, rfl, rfl, VG, hid rfl, O3, N3, V, BB⟩
  case round =>
    clear VG O3 N3 V BB
    obtain ⟨k, u9, u10, u32, u, d, hk, rfl, rfl, rfl, rfl, VG, hd, OL, NU, V, BL⟩ := hrel
    obtain ⟨pu, cu, rfl, -, -, -⟩ := OL.out.rd.parts
    by_cases hlt : k < ds.length
    · obtain ⟨b', cb', e, -, -, hcs⟩ := (H0.out.below BL.out).parts
      cases e
      obtain ⟨bb, ob, rfl, q1⟩ := hcs k hlt
      obtain ⟨c0, c1, c2, c3⟩ := c_cells q1
      have I1 := idx_ci bb ob ds.length cb k hlt
      have TS := hid (mT_succ cs ds k hlt)
      have BS := hid (mB_succ cs ds k hlt)
      have VO := hid (vF_ok (MO.out k))
      have SZ := hid (show g + 1 ≤ wr.heap.size from var_lt V.out)
      have SG := hid (show go < wr.heap.size from var_lt VG.out)
      obtain ⟨X, hX⟩ : ∃ M, M = ds[k] := ⟨_, rfl⟩
      rw [← hX] at c0 c1 c2 c3 TS BS
      obtain ⟨T, hT⟩ : ∃ T, T = mT cs ds k := ⟨_, rfl⟩
      rw [← hT] at OL TS BS VO VG NU
      clear q1 hcs hX hT
      obtain ⟨⟨f0, f1, f2⟩, -⟩ := var3_facts VG.out
      go_wp2
      refine wp_region_held_drew (S := fun w' => Below wr.heap.size wr w') (by kernel_rfl) (Below.refl _ _).drew (fun hH => ?_)
      generalize wr.drew = wd at hH ⊢
      refine wpAnyH_take (i := 0) (v := .pointer (some ⟨go, 1, none⟩)) (by simp only [List.getElem?_toArray, List.getElem?_cons_zero]; rfl) (by kernel_rfl) (by kernel_rfl) (by kernel_rfl) (by intro _ _ _ h; exact h) (Or.inl ⟨by rfl, fun w hS => by go_simp⟩) hH ?_
      simp only [Act.put, List.setIfInBounds_toArray, List.set_cons_zero, List.set_cons_succ]
      refine wpAnyH_take (i := 1) (v := .slice pu T.length cu) (by simp only [List.getElem?_toArray, List.getElem?_cons_succ, List.getElem?_cons_zero]; rfl) (by kernel_rfl) (by kernel_rfl) (by kernel_rfl) (by intro _ _ _ h; exact h) (Or.inl ⟨by rfl, fun w hS => by (have y1 := cell_kept hS f1; go_simp)⟩) hH ?_
      simp only [Act.put, List.setIfInBounds_toArray, List.set_cons_zero, List.set_cons_succ]
      refine wpAnyH_take (i := 2) (v := .slice (some ⟨bb, ob, none⟩) ds.length cb) (by simp only [List.getElem?_toArray, List.getElem?_cons_succ, List.getElem?_cons_zero]; rfl) (by kernel_rfl) (by kernel_rfl) (by kernel_rfl) (by intro _ _ _ h; exact h) (Or.inl ⟨by rfl, fun w hS => by go_simp⟩) hH ?_
      simp only [Act.put, List.setIfInBounds_toArray, List.set_cons_zero, List.set_cons_succ]
      refine wpAnyH_take (i := 3) (v := .int .i64 (k : Int)) (by simp only [List.getElem?_toArray, List.getElem?_cons_succ, List.getElem?_cons_zero]; rfl) (by kernel_rfl) (by kernel_rfl) (by kernel_rfl) (by intro _ _ _ h; exact h) (Or.inl ⟨by rfl, fun w hS => by go_simp⟩) hH ?_
      simp only [Act.put, List.setIfInBounds_toArray, List.set_cons_zero, List.set_cons_succ]
      refine wpAnyH_take (i := 4) (v := .pointer (some ⟨bb, ob + k * 4, none⟩)) (by simp only [List.getElem?_toArray, List.getElem?_cons_succ, List.getElem?_cons_zero]; rfl) (by kernel_rfl) (by kernel_rfl) (by kernel_rfl) (by intro _ _ _ h; exact h) (Or.inl ⟨by rfl, fun w hS => by go_simp⟩) hH ?_
      simp only [Act.put, List.setIfInBounds_toArray, List.set_cons_zero, List.set_cons_succ]
      refine wpAnyH_take (i := 5) (v := .agg #[.int .i64 X.n, .int .i64 X.i, .int .i64 X.s, .int .i64 X.m]) (by simp only [List.getElem?_toArray, List.getElem?_cons_succ, List.getElem?_cons_zero]; rfl) (by kernel_rfl) (by kernel_rfl) (by kernel_rfl) (by intro _ _ _ h; exact h) (Or.inl ⟨by rfl, fun w hS => by (have y0 := cell_kept hS c0; have y1 := cell_kept hS c1; have y2 := cell_kept hS c2; have y3 := cell_kept hS c3; go_simp)⟩) hH ?_
      simp only [Act.put, List.setIfInBounds_toArray, List.set_cons_zero, List.set_cons_succ]
      refine wpAnyH_ready (rs := [6]) (by kernel_rfl) (by simp) ?_
      refine AllReadyH.cons (by simp only [List.getElem?_toArray, List.getElem?_cons_succ, List.getElem?_cons_zero]; rfl) (fun K hK => ?_) AllReadyH.nil
      go_simp
      refine (s8m _ T X _ (OL.out.rd.below hH) VO.out.1 VO.out.2.2).mono ?_
      rintro e x6 ⟨u2, rfl, hO, hM⟩
      have O2 := hid (hO.mono hH.size)
      refine hK.out _ _ (hH.trans (hM.mono hH.size)) (fun hH => ?_)
      clear hK K hM hO
      refine wpAnyH_take (i := 7) (v := .tuple #[u2, .bool (mch T X)]) (by simp only [List.getElem?_toArray, List.getElem?_cons_succ, List.getElem?_cons_zero]; rfl) (by kernel_rfl) (by kernel_rfl) (by kernel_rfl) (by intro _ _ _ h; exact h) (Or.inl ⟨by rfl, fun w hS => by go_simp⟩) hH ?_
      simp only [Act.put, List.setIfInBounds_toArray, List.set_cons_zero, List.set_cons_succ]
      refine wpAnyH_take (i := 8) (v := u2) (by simp only [List.getElem?_toArray, List.getElem?_cons_succ, List.getElem?_cons_zero]; rfl) (by kernel_rfl) (by kernel_rfl) (by kernel_rfl) (by intro _ _ _ h; exact h) (Or.inl ⟨by rfl, fun w hS => by go_simp⟩) hH ?_
      simp only [Act.put, List.setIfInBounds_toArray, List.set_cons_zero, List.set_cons_succ]
      refine wpAnyH_take (i := 9) (v := .bool (mch T X)) (by simp only [List.getElem?_toArray, List.getElem?_cons_succ, List.getElem?_cons_zero]; rfl) (by kernel_rfl) (by kernel_rfl) (by kernel_rfl) (by intro _ _ _ h; exact h) (Or.inl ⟨by rfl, fun w hS => by go_simp⟩) hH ?_
      simp only [Act.put, List.setIfInBounds_toArray, List.set_cons_zero, List.set_cons_succ]
      refine wpAnyH_take (i := 10) (v := u2) (by simp only [List.getElem?_toArray, List.getElem?_cons_succ, List.getElem?_cons_zero]; rfl) (by kernel_rfl) (by kernel_rfl) (by kernel_rfl) (by intro _ _ _ h; exact h) (Or.inl ⟨by rfl, fun w hS => by go_simp⟩) hH ?_
      simp only [Act.put, List.setIfInBounds_toArray, List.set_cons_zero, List.set_cons_succ]
      refine wpAnyH_take (i := 11) (v := .bool (mch T X)) (by simp only [List.getElem?_toArray, List.getElem?_cons_succ, List.getElem?_cons_zero]; rfl) (by kernel_rfl) (by kernel_rfl) (by kernel_rfl) (by intro _ _ _ h; exact h) (Or.inl ⟨by rfl, fun w hS => by go_simp⟩) hH ?_
      simp only [Act.put, List.setIfInBounds_toArray, List.set_cons_zero, List.set_cons_succ]
      refine wpAnyH_done (by kernel_rfl) ?_ _
      have hB := hH
      clear hH
      replace V := hid (var_below hB V.out)
      replace VG := hid (var_below hB VG.out)
      replace BL := hid (BL.out.trans (hB.mono BL.out.size))
      clear hB c0 c1 c2 c3 f0 f1 f2 I1
      obtain ⟨y, hy⟩ : ∃ y, y = mrg T X := ⟨_, rfl⟩
      rw [← hy] at O2
      replace hy := hid hy.symm
      obtain ⟨p2, c2, rfl, -, -, -⟩ := O2.out.rd.parts
      have NE := hid (show (Value.slice p2 y.length c2).ownBlock ≠ some go from fun e => by have := O2.out.lt _ e; have := SG.out; omega)
      obtain ⟨t, ht⟩ : ∃ t, t = mch T X := ⟨_, rfl⟩
      rw [← ht] at BS ⊢
      clear ht
      cases d
      · cases t
        · have VN := hid (var3_set12 (y' := .slice p2 y.length c2) (z' := .bool false) VG.out)
          have V2 := hid (var_other (var_other V.out GN.out (i := 1) (.slice p2 y.length c2)) GN.out (i := 2) (.bool false))
          have ON := hid ((O2.out.other NE.out (i := 1) (.slice p2 y.length c2)).other NE.out (i := 2) (.bool false))
          have BN := hid ((BL.out.setCell (p := ⟨go, 1, none⟩) GO.out (.slice p2 y.length c2)).setCell (p := ⟨go, 2, none⟩) GO.out (.bool false))
          have DN := hid (show false = mB cs ds (k + 1) by rw [BS.out, ← hd.out]; rfl)
          obtain ⟨⟨z0, z1, z2⟩, z3, z4, z5⟩ := var3_facts VG.out
          clear VG V BL OL
          go_wp2
          go_roundw
          case rel => exact ⟨k + 1, _, _, _, _, _, hlt, by go_num, rfl, rfl, rfl, VN, DN, hid (by rw [TS.out, hy.out]; exact ON.out.mono SZ.out), NE, V2, BN⟩
          case measure => simp [intOf]; omega
        · have VN := hid (var3_set12 (y' := .slice p2 y.length c2) (z' := .bool true) VG.out)
          have V2 := hid (var_other (var_other V.out GN.out (i := 1) (.slice p2 y.length c2)) GN.out (i := 2) (.bool true))
          have ON := hid ((O2.out.other NE.out (i := 1) (.slice p2 y.length c2)).other NE.out (i := 2) (.bool true))
          have BN := hid ((BL.out.setCell (p := ⟨go, 1, none⟩) GO.out (.slice p2 y.length c2)).setCell (p := ⟨go, 2, none⟩) GO.out (.bool true))
          have DN := hid (show true = mB cs ds (k + 1) by rw [BS.out, ← hd.out]; rfl)
          obtain ⟨⟨z0, z1, z2⟩, z3, z4, z5⟩ := var3_facts VG.out
          clear VG V BL OL
          go_wp2
          go_roundw
          case rel => exact ⟨k + 1, _, _, _, _, _, hlt, by go_num, rfl, rfl, rfl, VN, DN, hid (by rw [TS.out, hy.out]; exact ON.out.mono SZ.out), NE, V2, BN⟩
          case measure => simp [intOf]; omega
      · have D2 := hid (show true = mB cs ds (k + 1) by rw [BS.out, ← hd.out]; rfl)
        have VN := hid (var3_set12 (y' := .slice p2 y.length c2) (z' := .bool true) VG.out)
        have V2 := hid (var_other (var_other V.out GN.out (i := 1) (.slice p2 y.length c2)) GN.out (i := 2) (.bool true))
        have ON := hid ((O2.out.other NE.out (i := 1) (.slice p2 y.length c2)).other NE.out (i := 2) (.bool true))
        have BN := hid ((BL.out.setCell (p := ⟨go, 1, none⟩) GO.out (.slice p2 y.length c2)).setCell (p := ⟨go, 2, none⟩) GO.out (.bool true))
        have DN := hid (show true = mB cs ds (k + 1) by exact D2.out)
        obtain ⟨⟨z0, z1, z2⟩, z3, z4, z5⟩ := var3_facts VG.out
        clear VG V BL OL
        go_wp2
        go_roundw
        case rel => exact ⟨k + 1, _, _, _, _, _, hlt, by go_num, rfl, rfl, rfl, VN, DN, hid (by rw [TS.out, hy.out]; exact ON.out.mono SZ.out), NE, V2, BN⟩
        case measure => simp [intOf]; omega
    · have hke : k = ds.length := by omega
      subst hke
      obtain ⟨T, hT⟩ : ∃ T, T = mT cs ds ds.length := ⟨_, rfl⟩
      rw [← hT] at OL VG NU
      replace hT := hid hT
      obtain ⟨⟨f0, f1, f2⟩, -⟩ := var3_facts VG.out
      obtain ⟨⟨z0, z1, z2⟩, z3, z4, z5⟩ := var3_facts V.out
      have HS := hid (var3_set (x' := .int .i64 0) (y' := .slice pu T.length cu) (z' := .bool d) V.out)
      have HW := hid (below_st3 (.int .i64 0) (.slice pu T.length cu) (.bool d) BL.out GL.out)
      have HO := hid (OL.out.st3 (Nat.lt_succ_self g) (.int .i64 0) (.slice pu T.length cu) (.bool d))
      clear OL BL NU
      go_wp2
      exact bodyPost_ret (v := .agg #[.int .i64 0, .slice pu T.length cu, .bool d]) (results_cell_row rfl _ _ g 75 _ _ _ rfl HS.out Try.underlying75 rfl (by kernel_rfl)) rfl ⟨_, by rw [E.out.1, E.out.2.2, hd.out], by rw [E.out.2.1, ← hT.out]; exact HO.out.rd, HW.out⟩
end Go.Proofs.Ytbleikbmnkjbeac.W
