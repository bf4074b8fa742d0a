/-
  What MergeViews of the program answers. Generated text.
-/
import Derived.Test.YtpcndgmmdpgpmaoVwMv
import Derived.Test.YtpcndgmmdpgpmaoVwAi
namespace Go.Proofs.Ytpcndgmmdpgpmao.W
open Go.ChangeShapes Go.WideShapes Go.ChangeAt Go.RowKit
open Go.Proofs.Ytpcndgmmdpgpmao.M

set_option maxHeartbeats 8000000 in
set_option maxRecDepth 100000 in
theorem imw (va vb : Value) (cs ds : List Clm) (w : World) (ha : RdC w va cs) (hb : RdC w vb ds) :
    Calls Try.prog 10 #[va, vb] w fun e w' => ∃ u, e = .returned (.agg #[.int .i64 (mvC cs ds), u, .bool (mvT cs ds)]) ∧ OC w' w.heap.size w'.heap.size u (mvL cs ds) ∧ Below w.heap.size w w' := by
  have HA := hid ha
  have HB := hid hb
  have H0 := hid hb
  obtain ⟨a, ca, rfl, -, -, -⟩ := ha.parts
  obtain ⟨b, cb, rfl, -, -, -⟩ := hb.parts
  clear ha hb
  go_enter Try.func10, Try.ntmps10
  have V := hid (heap_alloc_new w (.cells #[.int .i64 0, .slice none 0 0, .bool false] 26))
  have BB := hid (below_alloc1 w (.cells #[.int .i64 0, .slice none 0 0, .bool false] 26))
  have VV := heap_alloc_new (w.alloc (.cells #[.int .i64 0, .slice none 0 0, .bool false] 26)) (.cells #[.slice a cs.length ca, .slice b ds.length cb] 24)
  simp only [World.size_alloc] at VV
  replace VV := hid VV
  have BV := hid (below_alloc1 (w.alloc (.cells #[.int .i64 0, .slice none 0 0, .bool false] 26)) (.cells #[.slice a cs.length ca, .slice b ds.length cb] 24))
  go_wp2_with fail
  generalize w.alloc (.cells #[.int .i64 0, .slice none 0 0, .bool false] 26) = w0 at *
  replace HA := hid (HA.out.below BB.out)
  replace HB := hid (HB.out.below BB.out)
  have LT := hid (var_lt V.out)
  obtain ⟨g, hg⟩ : ∃ g, g = w.heap.size := ⟨_, rfl⟩
  rw [← hg] at V LT VV ⊢
  have GL := hid (show w.heap.size ≤ g by omega)
  clear hg
  refine (ivsf _ _ cs ds (g + 1) _ (HA.out.below BV.out) (HB.out.below BV.out) VV.out).mono ?_
  rintro e w1 ⟨rfl, hB0⟩
  have hB := BV.out.trans (hB0.mono BV.out.size)
  clear hB0 VV BV
  replace V := hid (var_below hB V.out)
  replace HA := hid (HA.out.below hB)
  replace HB := hid (HB.out.below hB)
  replace BB := hid (BB.out.trans (hB.mono BB.out.size))
  replace LT := hid (Nat.lt_of_lt_of_le LT.out hB.size)
  clear hB
  obtain ⟨t, ht⟩ : ∃ t, t = vsF cs ds := ⟨_, rfl⟩
  rw [← ht]
  by_cases h0 : t = 0
  case neg =>
    have ne : (t != 0) = true := by rw [bne_iff_ne]; exact h0
    have E := hid (show mvC cs ds = t by rw [ht]; rfl)
    have EL := hid (mv_no (cs := cs) (ds := ds) (by rw [E.out]; exact h0))
    obtain ⟨⟨z0, z1, z2⟩, z3, z4, z5⟩ := var3_facts V.out
    have HS := hid (var3_set (x' := .int .i64 t) (y' := .slice none 0 0) (z' := .bool false) V.out)
    have HW := hid (below_st3 (.int .i64 t) (.slice none 0 0) (.bool false) BB.out GL.out)
    clear ht h0
    go_wp2
    exact bodyPost_ret (v := .agg #[.int .i64 t, .slice none 0 0, .bool false]) (results_cell_row rfl _ _ g 26 _ _ _ rfl HS.out Try.underlying26 rfl (by kernel_rfl)) rfl ⟨_, by rw [E.out, EL.out.2], by rw [EL.out.1]; exact OC.nil _ _ _, HW.out⟩
  subst h0
  have F0 := hid (show vF cs = 0 by
    by_cases q : vF cs = 0
    · exact q
    · rw [vsF, if_pos q] at ht; exact ht.symm)
  have F1 := hid (show vF ds = 0 by rw [vsF, if_neg (by simpa using F0.out)] at ht; exact ht.symm)
  have E := hid (mv_yes F0.out F1.out)
  clear ht
  go_wp2_with fail
  refine (imv _ _ cs ds _ HA.out HB.out F0.out (vF_ok F1.out).2.1 (by have := (vF_ok F1.out).1; omega)).mono ?_
  rintro e w3 ⟨u, rfl, hO, hB⟩
  have OO := hid (hO.mono (show g + 1 ≤ w1.heap.size + 1 from by have := LT.out; omega))
  replace V := hid (var_below hB V.out)
  replace HA := hid (HA.out.below hB)
  replace HB := hid (HB.out.below hB)
  replace BB := hid (BB.out.trans (hB.mono BB.out.size))
  replace LT := hid (Nat.lt_of_lt_of_le LT.out hB.size)
  clear hB
  clear hO
  obtain ⟨l, hlx⟩ : ∃ l, l = mT cs ds ds.length := ⟨_, rfl⟩
  obtain ⟨t, ht⟩ : ∃ t, t = mB cs ds ds.length := ⟨_, rfl⟩
  rw [← hlx] at OO
  rw [← ht]
  replace hlx := hid hlx
  replace ht := hid ht
  obtain ⟨pu, cu, rfl, -, -, -⟩ := OO.out.rd.parts
  obtain ⟨⟨z0, z1, z2⟩, z3, z4, z5⟩ := var3_facts V.out
  have HS := hid (var3_set (x' := .int .i64 0) (y' := .slice pu l.length cu) (z' := .bool t) V.out)
  have HW := hid (below_st3 (.int .i64 0) (.slice pu l.length cu) (.bool t) BB.out GL.out)
  have HO := hid (OO.out.st3 (Nat.lt_succ_self g) (.int .i64 0) (.slice pu l.length cu) (.bool t))
  clear OO
  go_wp2
  exact bodyPost_ret (v := .agg #[.int .i64 0, .slice pu l.length cu, .bool t]) (results_cell_row rfl _ _ g 26 _ _ _ rfl HS.out Try.underlying26 rfl (by kernel_rfl)) rfl ⟨_, by rw [E.out.1, E.out.2.2, ht.out], by rw [E.out.2.1, ← hlx.out]; exact OC.of (HO.out.mono (Nat.le_succ_of_le GL.out)), HW.out⟩
end Go.Proofs.Ytpcndgmmdpgpmao.W
