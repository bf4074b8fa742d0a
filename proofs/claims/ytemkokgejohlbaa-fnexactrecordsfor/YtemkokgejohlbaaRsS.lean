/-
  What RecordsFor of the model answers. Generated text.
-/
import Derived.Test.YtemkokgejohlbaaRsS0
import Derived.Test.YtemkokgejohlbaaVwS
import Derived.Test.YtemkokgejohlbaaInWalks
namespace Go.Proofs.Ytemkokgejohlbaa.W
open Go.ChangeShapes Go.WideShapes Go.ChangeAt Go.RowKit
open Go.Proofs.Ytemkokgejohlbaa.M

set_option maxHeartbeats 4000000 in
set_option maxRecDepth 100000 in
theorem srf (v : Value) (cs : List Clm) (s kd : Int) (w : World) (h : RdC w v cs) :
    Calls Try.prog 5 #[v, .int .i64 s, .int .i64 kd] w fun e w' => ∃ u, e = .returned (.agg #[.int .i64 (rsC cs s kd), u]) ∧ OwD w' w.heap.size u (rsR cs s kd) ∧ Below w.heap.size w w' := by
  have H := hid (h.below (below_alloc1 w (.cells #[.int .i64 0, .slice none 0 0] 26)))
  obtain ⟨a, cap, rfl, -, -, -⟩ := h.parts
  clear h
  have V := hid (heap_alloc_new w (.cells #[.int .i64 0, .slice none 0 0] 26))
  have BB := hid (below_alloc1 w (.cells #[.int .i64 0, .slice none 0 0] 26))
  go_enter Try.func5, Try.ntmps5
  go_wp2_with fail
  generalize w.alloc (.cells #[.int .i64 0, .slice none 0 0] 26) = w0 at *
  obtain ⟨g, hg⟩ : ∃ g, g = w.heap.size := ⟨_, rfl⟩
  have LG := hid (show w.heap.size ≤ g by omega)
  rw [← hg] at V ⊢
  replace hg := hid hg
  refine (svf _ cs _ H.out).mono ?_
  rintro e w1 ⟨rfl, hB⟩
  replace H := hid (H.out.below hB)
  replace V := hid (var_below hB V.out)
  replace BB := hid (BB.out.trans (hB.mono BB.out.size))
  clear hB
  obtain ⟨t, ht⟩ : ∃ t, t = vF cs := ⟨_, rfl⟩
  rw [← ht]
  replace ht := hid ht
  by_cases h0 : t = 0
  case neg =>
    have E1 := hid (show rsC cs s kd = t by unfold rsC; rw [if_neg (by rw [← ht.out]; exact h0), ht.out])
    have E2 := hid (show rsR cs s kd = [] by unfold rsR; rw [if_neg (by rw [E1.out]; exact h0)])
    obtain ⟨q0, q1, z0, z1⟩ := var2_facts V.out
    have V2 := hid (var2_set (x' := .int .i64 t) (y' := .slice none 0 0) V.out)
    have B2 := hid (below_set2 (x := .int .i64 t) (y := .slice none 0 0) BB.out LG.out)
    go_wp2
    exact bodyPost_ret (v := .agg #[.int .i64 t, .slice none 0 0]) (results_cell_row rfl _ _ g 26 _ _ _ rfl V2.out Try.underlying26 rfl (by kernel_rfl)) rfl ⟨_, by rw [E1.out], by rw [E2.out]; exact OwD.nil _ _, B2.out⟩
  subst h0
  have HF := hid (vF_ok ht.out.symm)
  go_wp2_with fail
  refine (l1in s 0 99 _).mono ?_
  rintro e w2 ⟨rfl, hw⟩
  subst hw
  obtain ⟨r, hr⟩ : ∃ r, r = inB s 0 99 := ⟨_, rfl⟩
  rw [← hr]
  replace hr := hid hr
  cases r
  case false =>
    have E1 := hid (show rsC cs s kd = 3 by unfold rsC; rw [if_pos ht.out.symm, ← hr.out]; rfl)
    have E2 := hid (show rsR cs s kd = [] by unfold rsR; rw [if_neg (by rw [E1.out]; decide)])
    obtain ⟨q0, q1, z0, z1⟩ := var2_facts V.out
    have V2 := hid (var2_set (x' := .int .i64 3) (y' := .slice none 0 0) V.out)
    have B2 := hid (below_set2 (x := .int .i64 3) (y := .slice none 0 0) BB.out LG.out)
    go_wp2
    exact bodyPost_ret (v := .agg #[.int .i64 3, .slice none 0 0]) (results_cell_row rfl _ _ g 26 _ _ _ rfl V2.out Try.underlying26 rfl (by kernel_rfl)) rfl ⟨_, by rw [E1.out], by rw [E2.out]; exact OwD.nil _ _, B2.out⟩
  by_cases k1 : kd = 1 ∨ kd = 33
  case neg =>
    have n1 : (kd != 1) = true := by rw [bne_iff_ne]; omega
    have n2 : (kd != 33) = true := by rw [bne_iff_ne]; omega
    have hk := hid (show (kd == 1 || kd == 33) = false by simp only [Bool.or_eq_false_iff, beq_eq_false_iff_ne, ne_eq]; omega)
    clear k1
    have E1 := hid (show rsC cs s kd = 3 by unfold rsC; rw [if_pos ht.out.symm, ← hr.out, hk.out]; rfl)
    have E2 := hid (show rsR cs s kd = [] by unfold rsR; rw [if_neg (by rw [E1.out]; decide)])
    obtain ⟨q0, q1, z0, z1⟩ := var2_facts V.out
    have V2 := hid (var2_set (x' := .int .i64 3) (y' := .slice none 0 0) V.out)
    have B2 := hid (below_set2 (x := .int .i64 3) (y := .slice none 0 0) BB.out LG.out)
    go_wp2
    exact bodyPost_ret (v := .agg #[.int .i64 3, .slice none 0 0]) (results_cell_row rfl _ _ g 26 _ _ _ rfl V2.out Try.underlying26 rfl (by kernel_rfl)) rfl ⟨_, by rw [E1.out], by rw [E2.out]; exact OwD.nil _ _, B2.out⟩
  have E1 := hid (show rsC cs s kd = 0 by unfold rsC; rw [if_pos ht.out.symm, ← hr.out, show (kd == 1 || kd == 33) = true by simpa using k1]; rfl)
  have E2 := hid (show rsR cs s kd = rsL s kd cs by unfold rsR; rw [if_pos E1.out])
  have GV := hid (var_lt V.out)
  have kk : ((kd != 1) && (kd != 33)) = false := by rcases k1 with q | q <;> simp [q]
  rcases k1 with rfl | rfl
  · clear kk
    go_wp2_with fail
    refine (l10r _ cs s 1 _ H.out HF.out.1 HF.out.2.1).mono ?_
    rintro e w5 ⟨u, rfl, hO, hB⟩
    obtain ⟨pu, ku, rfl, -, -, -⟩ := hO.rd.parts
    have RO := hid hO
    clear hO
    replace H := hid (H.out.below hB)
    replace V := hid (var_below hB V.out)
    replace BB := hid (BB.out.trans (hB.mono BB.out.size))
    clear hB
    rw [← E2.out] at RO
    rw [← E2.out]
    obtain ⟨xs, hxs⟩ : ∃ z, z = rsR cs s 1 := ⟨_, rfl⟩
    rw [← hxs] at RO
    rw [← hxs]
    clear E2
    replace hxs := hid hxs
    have ON := hid (show OwD ((w5.setCell ⟨g, 0, none⟩ (.int .i64 0)).setCell ⟨g, 1, none⟩ (.slice pu xs.length ku)) _ (.slice pu xs.length ku) xs from ownsRow_setCell_below (ownsRow_setCell_below RO.out (a := ⟨g, 0, none⟩) GV.out _) (a := ⟨g, 1, none⟩) GV.out _)
    obtain ⟨q0, q1, z0, z1⟩ := var2_facts V.out
    have V2 := hid (var2_set (x' := .int .i64 0) (y' := .slice pu xs.length ku) V.out)
    have B2 := hid (below_set2 (x := .int .i64 0) (y := .slice pu xs.length ku) BB.out LG.out)
    go_wp2
    exact bodyPost_ret (v := .agg #[.int .i64 0, .slice pu xs.length ku]) (results_cell_row rfl _ _ g 26 _ _ _ rfl V2.out Try.underlying26 rfl (by kernel_rfl)) rfl ⟨_, by rw [E1.out], by rw [← hxs.out]; exact ON.out.mono (Nat.le_of_lt (Nat.lt_of_le_of_lt LG.out GV.out)), B2.out⟩
  · clear kk
    go_wp2_with fail
    refine (l10r _ cs s 33 _ H.out HF.out.1 HF.out.2.1).mono ?_
    rintro e w5 ⟨u, rfl, hO, hB⟩
    obtain ⟨pu, ku, rfl, -, -, -⟩ := hO.rd.parts
    have RO := hid hO
    clear hO
    replace H := hid (H.out.below hB)
    replace V := hid (var_below hB V.out)
    replace BB := hid (BB.out.trans (hB.mono BB.out.size))
    clear hB
    rw [← E2.out] at RO
    rw [← E2.out]
    obtain ⟨xs, hxs⟩ : ∃ z, z = rsR cs s 33 := ⟨_, rfl⟩
    rw [← hxs] at RO
    rw [← hxs]
    clear E2
    replace hxs := hid hxs
    have ON := hid (show OwD ((w5.setCell ⟨g, 0, none⟩ (.int .i64 0)).setCell ⟨g, 1, none⟩ (.slice pu xs.length ku)) _ (.slice pu xs.length ku) xs from ownsRow_setCell_below (ownsRow_setCell_below RO.out (a := ⟨g, 0, none⟩) GV.out _) (a := ⟨g, 1, none⟩) GV.out _)
    obtain ⟨q0, q1, z0, z1⟩ := var2_facts V.out
    have V2 := hid (var2_set (x' := .int .i64 0) (y' := .slice pu xs.length ku) V.out)
    have B2 := hid (below_set2 (x := .int .i64 0) (y := .slice pu xs.length ku) BB.out LG.out)
    go_wp2
    exact bodyPost_ret (v := .agg #[.int .i64 0, .slice pu xs.length ku]) (results_cell_row rfl _ _ g 26 _ _ _ rfl V2.out Try.underlying26 rfl (by kernel_rfl)) rfl ⟨_, by rw [E1.out], by rw [← hxs.out]; exact ON.out.mono (Nat.le_of_lt (Nat.lt_of_le_of_lt LG.out GV.out)), B2.out⟩
end Go.Proofs.Ytemkokgejohlbaa.W
