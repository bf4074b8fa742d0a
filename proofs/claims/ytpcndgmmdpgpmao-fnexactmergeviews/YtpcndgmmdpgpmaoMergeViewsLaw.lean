/-
  The exact law of MergeViews, out of the contracts of its callees.
-/
import Derived.Test.YtpcndgmmdpgpmaoVwMw
import Derived.Test.YtpcndgmmdpgpmaoVwX
namespace Go.Proofs.Ytpcndgmmdpgpmao.W
open Go.ChangeShapes Go.WideShapes Go.ChangeAt Go.RowKit
open Go.Proofs.Ytpcndgmmdpgpmao.M

set_option maxHeartbeats 4000000 in
set_option maxRecDepth 100000 in
theorem law_MergeViews (c : Int) (ct : Bool) (cs0 : List Clm) (cs1 : List Clm) (l : List Clm) (a0 a1 : Value) (w : World) (hl : l.length ≤ 1048576)
    (h0 : RdC w a0 cs0)
    (h1 : RdC w a1 cs1)
    (SP : Hid (∀ (w : World) (v0 v1 : Value), cs0.length ≤ 1048576 → cs1.length ≤ 1048576 → RdC w v0 cs0 → RdC w v1 cs1 → Calls Try.prog 8 #[v0, v1] w fun e w' => ∃ v, e = .returned (.agg #[.int .i64 c, v, .bool ct]) ∧ RdC w' v l ∧ Below w.heap.size w w'))
    (IP : Hid (∀ (w : World) (v0 v1 : Value), cs0.length ≤ 1048576 → cs1.length ≤ 1048576 → RdC w v0 cs0 → RdC w v1 cs1 → Calls Try.prog 10 #[v0, v1] w fun e w' => ∃ v, e = .returned (.agg #[.int .i64 c, v, .bool ct]) ∧ OC w' w.heap.size w'.heap.size v l ∧ Below w.heap.size w w')) :
    Calls Try.prog 3 #[a0, a1] w fun e w' => e = .returned (.bool true) ∧ Below w.heap.size w w' := by
  have HA0 := hid h0
  obtain ⟨b0, cap0, rfl, hlc, hcm, -⟩ := h0.parts
  have LM0 := hid (Nat.le_trans hlc hcm)
  clear h0 hlc hcm
  have HA1 := hid h1
  obtain ⟨b1, cap1, rfl, hlc, hcm, -⟩ := h1.parts
  have LM1 := hid (Nat.le_trans hlc hcm)
  clear h1 hlc hcm
  have BB := hid (Below.refl w.heap.size w)
  go_enter Try.func3, Try.ntmps3
  go_wp2_with fail
  refine (szCS _ cs0 1048576 _ (HA0.out.below BB.out) (by omega) (by omega)).mono ?_
  rintro e w1 ⟨rfl, hB⟩
  replace BB := hid (BB.out.trans (hB.mono BB.out.size))
  have Z1 := hid (hB.size)
  clear hB
  by_cases hz0 : (1048576 : Int) < cs0.length
  · rw [show szC 1048576 cs0.length = -1 by rw [szC, if_pos hz0]]
    go_wp2
    go_ret
    exact ⟨rfl, BB.out⟩
  obtain ⟨lf0, e1⟩ : ∃ r, r = szC 1048576 cs0.length := ⟨_, rfl⟩
  have e1' : szC 1048576 cs0.length = 1048576 - cs0.length := by rw [szC, if_neg hz0]
  have gV0 : 0 ≤ lf0 := by rw [e1, e1']; omega
  have fV0 : lf0 ≤ 1048576 := by rw [e1, e1']; omega
  have hk0 : cs0.length ≤ 1048576 := by omega
  rw [← e1]
  clear e1 e1' hz0
  go_wp2_with fail
  refine (szCS _ cs1 lf0 _ (HA1.out.below BB.out) gV0 fV0).mono ?_
  rintro e w2 ⟨rfl, hB⟩
  replace BB := hid (BB.out.trans (hB.mono BB.out.size))
  have Z2 := hid (hB.size)
  clear hB
  by_cases hz1 : lf0 < cs1.length
  · rw [show szC lf0 cs1.length = -1 by rw [szC, if_pos hz1]]
    go_wp2
    go_ret
    exact ⟨rfl, BB.out⟩
  obtain ⟨lf1, e1⟩ : ∃ r, r = szC lf0 cs1.length := ⟨_, rfl⟩
  have e1' : szC lf0 cs1.length = lf0 - cs1.length := by rw [szC, if_neg hz1]
  have gV1 : 0 ≤ lf1 := by rw [e1, e1']; omega
  have fV1 : lf1 ≤ 1048576 := by rw [e1, e1']; omega
  have hk1 : cs1.length ≤ 1048576 := by omega
  rw [← e1]
  clear e1 e1' hz1
  go_wp2_with fail
  refine (toCS _ cs0 _ (HA0.out.below BB.out) hk0).mono ?_
  rintro e w3 ⟨gT0, rfl, hF, hB⟩
  have T0 := hid hF.rd
  clear hF
  replace BB := hid (BB.out.trans (hB.mono BB.out.size))
  have Z3 := hid (hB.size)
  clear hB
  go_wp2_with fail
  refine (toCS _ cs1 _ (HA1.out.below BB.out) hk1).mono ?_
  rintro e w4 ⟨gT1, rfl, hF, hB⟩
  have T1 := hid hF.rd
  clear hF
  replace T0 := hid (T0.out.below hB)
  replace BB := hid (BB.out.trans (hB.mono BB.out.size))
  have Z4 := hid (hB.size)
  clear hB
  go_wp2_with fail
  refine (SP.out _ _ _ hk0 hk1 T0.out T1.out).mono ?_
  rintro e w5 ⟨v, rfl, hR, hB⟩
  obtain ⟨pv, kv, rfl, -, -, -⟩ := hR.parts
  have RW := hid hR
  clear hR
  replace BB := hid (BB.out.trans (hB.mono BB.out.size))
  have Z5 := hid (hB.size)
  clear hB
  clear T0 T1
  have BW := hid (Below.refl w5.heap.size w5)
  obtain ⟨pW, kW, hpk⟩ : ∃ a b, a = pv ∧ b = kv := ⟨_, _, rfl, rfl⟩
  obtain ⟨rfl, rfl⟩ := hpk
  have VW := hid (heap_alloc_new w5 (.cells #[.int .i64 c, .slice pW l.length kW, .bool ct] 26))
  have hA := below_alloc1 w5 (.cells #[.int .i64 c, .slice pW l.length kW, .bool ct] 26)
  replace BB := hid (BB.out.trans (hA.mono BB.out.size))
  replace BW := hid (BW.out.trans (hA.mono BW.out.size))
  have Z6 := hid (show w5.heap.size < (w5.alloc (.cells #[.int .i64 c, .slice pW l.length kW, .bool ct] 26)).heap.size by simp)
  clear hA
  obtain ⟨⟨vw_0, vw_1, vw_2⟩, -⟩ := var3_facts VW.out
  go_wp2_with fail
  clear vw_0 vw_1 vw_2
  generalize w5.alloc (.cells #[.int .i64 c, .slice pW l.length kW, .bool ct] 26) = w5a at *
  refine (toCS _ cs0 _ (HA0.out.below BB.out) hk0).mono ?_
  rintro e w6 ⟨gX0, rfl, hF, hB⟩
  have X0 := hid hF
  clear hF
  replace VW := hid (var_below hB VW.out)
  replace BB := hid (BB.out.trans (hB.mono BB.out.size))
  replace BW := hid (BW.out.trans (hB.mono BW.out.size))
  have Z7 := hid (hB.size)
  clear hB
  obtain ⟨⟨vw_0, vw_1, vw_2⟩, -⟩ := var3_facts VW.out
  go_wp2_with fail
  clear vw_0 vw_1 vw_2
  refine (toCS _ cs1 _ (HA1.out.below BB.out) hk1).mono ?_
  rintro e w7 ⟨gX1, rfl, hF, hB⟩
  have X1 := hid hF
  clear hF
  replace VW := hid (var_below hB VW.out)
  replace X0 := hid (X0.out.below hB)
  replace BB := hid (BB.out.trans (hB.mono BB.out.size))
  replace BW := hid (BW.out.trans (hB.mono BW.out.size))
  have Z8 := hid (hB.size)
  clear hB
  obtain ⟨⟨vw_0, vw_1, vw_2⟩, -⟩ := var3_facts VW.out
  go_wp2_with fail
  clear vw_0 vw_1 vw_2
  refine (IP.out _ _ _ hk0 hk1 X0.out.rd X1.out.rd).mono ?_
  rintro e w8 ⟨v, rfl, hF, hB⟩
  obtain ⟨pG, kG, rfl, -, -, -⟩ := hF.rd.parts
  have OG := hid hF
  clear hF
  replace VW := hid (var_below hB VW.out)
  replace X0 := hid (X0.out.below hB)
  replace X1 := hid (X1.out.below hB)
  replace BB := hid (BB.out.trans (hB.mono BB.out.size))
  replace BW := hid (BW.out.trans (hB.mono BW.out.size))
  have Z9 := hid (hB.size)
  clear hB
  have VG := hid (heap_alloc_new w8 (.cells #[.int .i64 c, .slice pG l.length kG, .bool ct] 26))
  have hA := below_alloc1 w8 (.cells #[.int .i64 c, .slice pG l.length kG, .bool ct] 26)
  replace VW := hid (var_below hA VW.out)
  replace X0 := hid (X0.out.below hA)
  replace X1 := hid (X1.out.below hA)
  replace OG := hid (OG.out.below hA)
  replace BB := hid (BB.out.trans (hA.mono BB.out.size))
  replace BW := hid (BW.out.trans (hA.mono BW.out.size))
  have Z10 := hid (show w8.heap.size < (w8.alloc (.cells #[.int .i64 c, .slice pG l.length kG, .bool ct] 26)).heap.size by simp)
  clear hA
  obtain ⟨⟨vw_0, vw_1, vw_2⟩, -⟩ := var3_facts VW.out
  obtain ⟨⟨vg_0, vg_1, vg_2⟩, -⟩ := var3_facts VG.out
  go_wp2_with fail
  clear vw_0 vw_1 vw_2 vg_0 vg_1 vg_2
  generalize w8.alloc (.cells #[.int .i64 c, .slice pG l.length kG, .bool ct] 26) = w8a at *
  refine (eqVR c ct _ _ l _ OG.out.rd (RW.out.below BW.out) hl).mono ?_
  rintro e w9 ⟨rfl, hB⟩
  replace VW := hid (var_below hB VW.out)
  replace VG := hid (var_below hB VG.out)
  replace X0 := hid (X0.out.below hB)
  replace X1 := hid (X1.out.below hB)
  replace OG := hid (OG.out.below hB)
  replace BB := hid (BB.out.trans (hB.mono BB.out.size))
  replace BW := hid (BW.out.trans (hB.mono BW.out.size))
  have Z11 := hid (hB.size)
  clear hB
  obtain ⟨⟨vw_0, vw_1, vw_2⟩, -⟩ := var3_facts VW.out
  obtain ⟨⟨vg_0, vg_1, vg_2⟩, -⟩ := var3_facts VG.out
  go_wp2_with fail
  clear vw_0 vw_1 vw_2 vg_0 vg_1 vg_2
  refine (toCS _ cs0 _ (HA0.out.below BB.out) hk0).mono ?_
  rintro e w10 ⟨gY, rfl, hF, hB⟩
  have Y := hid hF.rd
  clear hF
  replace VW := hid (var_below hB VW.out)
  replace VG := hid (var_below hB VG.out)
  replace X0 := hid (X0.out.below hB)
  replace X1 := hid (X1.out.below hB)
  replace OG := hid (OG.out.below hB)
  replace BB := hid (BB.out.trans (hB.mono BB.out.size))
  replace BW := hid (BW.out.trans (hB.mono BW.out.size))
  have Z12 := hid (hB.size)
  clear hB
  obtain ⟨⟨vw_0, vw_1, vw_2⟩, -⟩ := var3_facts VW.out
  obtain ⟨⟨vg_0, vg_1, vg_2⟩, -⟩ := var3_facts VG.out
  go_wp2_with fail
  clear vw_0 vw_1 vw_2 vg_0 vg_1 vg_2
  refine (eqCS _ _ cs0 _ X0.out.rd Y.out hk0).mono ?_
  rintro e w11 ⟨rfl, hB⟩
  clear Y
  replace VW := hid (var_below hB VW.out)
  replace VG := hid (var_below hB VG.out)
  replace X0 := hid (X0.out.below hB)
  replace X1 := hid (X1.out.below hB)
  replace OG := hid (OG.out.below hB)
  replace BB := hid (BB.out.trans (hB.mono BB.out.size))
  replace BW := hid (BW.out.trans (hB.mono BW.out.size))
  have Z13 := hid (hB.size)
  clear hB
  obtain ⟨⟨vw_0, vw_1, vw_2⟩, -⟩ := var3_facts VW.out
  obtain ⟨⟨vg_0, vg_1, vg_2⟩, -⟩ := var3_facts VG.out
  go_wp2_with fail
  clear vw_0 vw_1 vw_2 vg_0 vg_1 vg_2
  refine (toCS _ cs1 _ (HA1.out.below BB.out) hk1).mono ?_
  rintro e w12 ⟨gY, rfl, hF, hB⟩
  have Y := hid hF.rd
  clear hF
  replace VW := hid (var_below hB VW.out)
  replace VG := hid (var_below hB VG.out)
  replace X0 := hid (X0.out.below hB)
  replace X1 := hid (X1.out.below hB)
  replace OG := hid (OG.out.below hB)
  replace BB := hid (BB.out.trans (hB.mono BB.out.size))
  replace BW := hid (BW.out.trans (hB.mono BW.out.size))
  have Z14 := hid (hB.size)
  clear hB
  obtain ⟨⟨vw_0, vw_1, vw_2⟩, -⟩ := var3_facts VW.out
  obtain ⟨⟨vg_0, vg_1, vg_2⟩, -⟩ := var3_facts VG.out
  go_wp2_with fail
  clear vw_0 vw_1 vw_2 vg_0 vg_1 vg_2
  refine (eqCS _ _ cs1 _ X1.out.rd Y.out hk1).mono ?_
  rintro e w13 ⟨rfl, hB⟩
  clear Y
  replace VW := hid (var_below hB VW.out)
  replace VG := hid (var_below hB VG.out)
  replace X0 := hid (X0.out.below hB)
  replace X1 := hid (X1.out.below hB)
  replace OG := hid (OG.out.below hB)
  replace BB := hid (BB.out.trans (hB.mono BB.out.size))
  replace BW := hid (BW.out.trans (hB.mono BW.out.size))
  have Z15 := hid (hB.size)
  clear hB
  obtain ⟨⟨vw_0, vw_1, vw_2⟩, -⟩ := var3_facts VW.out
  obtain ⟨⟨vg_0, vg_1, vg_2⟩, -⟩ := var3_facts VG.out
  go_wp2_with fail
  clear vw_0 vw_1 vw_2 vg_0 vg_1 vg_2
  refine (markCo _ cs0 1 _ rfl _ _ _ X0.out hk0 (by omega)).mono ?_
  rintro e w14 ⟨rfl, -, hI⟩
  replace VW := hid (hI.var VW.out (by have := Z1.out; have := Z2.out; have := Z3.out; have := Z4.out; have := Z5.out; have := Z6.out; have := Z7.out; have := Z8.out; have := Z9.out; have := Z10.out; have := Z11.out; have := Z12.out; have := Z13.out; have := Z14.out; have := Z15.out; omega))
  replace VG := hid (hI.var VG.out (by have := Z1.out; have := Z2.out; have := Z3.out; have := Z4.out; have := Z5.out; have := Z6.out; have := Z7.out; have := Z8.out; have := Z9.out; have := Z10.out; have := Z11.out; have := Z12.out; have := Z13.out; have := Z14.out; have := Z15.out; omega))
  replace X1 := hid (X1.out.agr (Agr.of_ins hI (by have := Z1.out; have := Z2.out; have := Z3.out; have := Z4.out; have := Z5.out; have := Z6.out; have := Z7.out; have := Z8.out; have := Z9.out; have := Z10.out; have := Z11.out; have := Z12.out; have := Z13.out; have := Z14.out; have := Z15.out; omega) (by have := Z1.out; have := Z2.out; have := Z3.out; have := Z4.out; have := Z5.out; have := Z6.out; have := Z7.out; have := Z8.out; have := Z9.out; have := Z10.out; have := Z11.out; have := Z12.out; have := Z13.out; have := Z14.out; have := Z15.out; omega)))
  replace OG := hid (OG.out.agr (Agr.of_ins hI (by have := Z1.out; have := Z2.out; have := Z3.out; have := Z4.out; have := Z5.out; have := Z6.out; have := Z7.out; have := Z8.out; have := Z9.out; have := Z10.out; have := Z11.out; have := Z12.out; have := Z13.out; have := Z14.out; have := Z15.out; omega) (by have := Z1.out; have := Z2.out; have := Z3.out; have := Z4.out; have := Z5.out; have := Z6.out; have := Z7.out; have := Z8.out; have := Z9.out; have := Z10.out; have := Z11.out; have := Z12.out; have := Z13.out; have := Z14.out; have := Z15.out; omega)))
  replace BB := hid (BB.out.trans (hI.below (by have := Z1.out; have := Z2.out; have := Z3.out; have := Z4.out; have := Z5.out; have := Z6.out; have := Z7.out; have := Z8.out; have := Z9.out; have := Z10.out; have := Z11.out; have := Z12.out; have := Z13.out; have := Z14.out; have := Z15.out; omega) BB.out.size))
  replace BW := hid (BW.out.trans (hI.below (by have := Z1.out; have := Z2.out; have := Z3.out; have := Z4.out; have := Z5.out; have := Z6.out; have := Z7.out; have := Z8.out; have := Z9.out; have := Z10.out; have := Z11.out; have := Z12.out; have := Z13.out; have := Z14.out; have := Z15.out; omega) BW.out.size))
  have Z16 := hid (hI.size)
  clear hI
  clear X0
  obtain ⟨k1, hkk⟩ : ∃ m : Nat, m = 1 + cs0.length * 4 := ⟨_, rfl⟩
  rw [← hkk]
  have kb1 : k1 ≤ 10485761 := by omega
  clear hkk
  obtain ⟨⟨vw_0, vw_1, vw_2⟩, -⟩ := var3_facts VW.out
  obtain ⟨⟨vg_0, vg_1, vg_2⟩, -⟩ := var3_facts VG.out
  go_wp2_with fail
  clear vw_0 vw_1 vw_2 vg_0 vg_1 vg_2
  refine (markCo _ cs1 k1 _ rfl _ _ _ X1.out hk1 (by omega)).mono ?_
  rintro e w15 ⟨rfl, -, hI⟩
  replace VW := hid (hI.var VW.out (by have := Z1.out; have := Z2.out; have := Z3.out; have := Z4.out; have := Z5.out; have := Z6.out; have := Z7.out; have := Z8.out; have := Z9.out; have := Z10.out; have := Z11.out; have := Z12.out; have := Z13.out; have := Z14.out; have := Z15.out; have := Z16.out; omega))
  replace VG := hid (hI.var VG.out (by have := Z1.out; have := Z2.out; have := Z3.out; have := Z4.out; have := Z5.out; have := Z6.out; have := Z7.out; have := Z8.out; have := Z9.out; have := Z10.out; have := Z11.out; have := Z12.out; have := Z13.out; have := Z14.out; have := Z15.out; have := Z16.out; omega))
  replace OG := hid (OG.out.agr (Agr.of_ins hI (by have := Z1.out; have := Z2.out; have := Z3.out; have := Z4.out; have := Z5.out; have := Z6.out; have := Z7.out; have := Z8.out; have := Z9.out; have := Z10.out; have := Z11.out; have := Z12.out; have := Z13.out; have := Z14.out; have := Z15.out; have := Z16.out; omega) (by have := Z1.out; have := Z2.out; have := Z3.out; have := Z4.out; have := Z5.out; have := Z6.out; have := Z7.out; have := Z8.out; have := Z9.out; have := Z10.out; have := Z11.out; have := Z12.out; have := Z13.out; have := Z14.out; have := Z15.out; have := Z16.out; omega)))
  replace BB := hid (BB.out.trans (hI.below (by have := Z1.out; have := Z2.out; have := Z3.out; have := Z4.out; have := Z5.out; have := Z6.out; have := Z7.out; have := Z8.out; have := Z9.out; have := Z10.out; have := Z11.out; have := Z12.out; have := Z13.out; have := Z14.out; have := Z15.out; have := Z16.out; omega) BB.out.size))
  replace BW := hid (BW.out.trans (hI.below (by have := Z1.out; have := Z2.out; have := Z3.out; have := Z4.out; have := Z5.out; have := Z6.out; have := Z7.out; have := Z8.out; have := Z9.out; have := Z10.out; have := Z11.out; have := Z12.out; have := Z13.out; have := Z14.out; have := Z15.out; have := Z16.out; omega) BW.out.size))
  have Z17 := hid (hI.size)
  clear hI
  clear X1
  obtain ⟨k2, hkk⟩ : ∃ m : Nat, m = k1 + cs1.length * 4 := ⟨_, rfl⟩
  rw [← hkk]
  have kb2 : k2 ≤ 20971521 := by omega
  clear hkk
  have hk0 : decide ((k2 : Int) < 0) = false := decide_eq_false (by omega)
  obtain ⟨⟨vw_0, vw_1, vw_2⟩, -⟩ := var3_facts VW.out
  obtain ⟨⟨vg_0, vg_1, vg_2⟩, -⟩ := var3_facts VG.out
  go_wp2_with fail
  clear vw_0 vw_1 vw_2 vg_0 vg_1 vg_2
  refine (eqVR c ct _ _ l _ OG.out.rd (RW.out.below BW.out) hl).mono ?_
  rintro e w16 ⟨rfl, hB⟩
  replace VW := hid (var_below hB VW.out)
  replace VG := hid (var_below hB VG.out)
  replace OG := hid (OG.out.below hB)
  replace BB := hid (BB.out.trans (hB.mono BB.out.size))
  replace BW := hid (BW.out.trans (hB.mono BW.out.size))
  have Z18 := hid (hB.size)
  clear hB
  clear hk0
  obtain ⟨⟨vw_0, vw_1, vw_2⟩, -⟩ := var3_facts VW.out
  obtain ⟨⟨vg_0, vg_1, vg_2⟩, -⟩ := var3_facts VG.out
  go_wp2_with fail
  clear vw_0 vw_1 vw_2 vg_0 vg_1 vg_2
  refine (markVRo c ct _ l 1 _ rfl _ _ _ OG.out hl (by omega)).mono ?_
  rintro e w17 ⟨rfl, hF, hI⟩
  replace OG := hid hF
  clear hF
  replace VW := hid (hI.var VW.out (by have := Z1.out; have := Z2.out; have := Z3.out; have := Z4.out; have := Z5.out; have := Z6.out; have := Z7.out; have := Z8.out; have := Z9.out; have := Z10.out; have := Z11.out; have := Z12.out; have := Z13.out; have := Z14.out; have := Z15.out; have := Z16.out; have := Z17.out; have := Z18.out; omega))
  replace VG := hid (hI.var VG.out (by have := Z1.out; have := Z2.out; have := Z3.out; have := Z4.out; have := Z5.out; have := Z6.out; have := Z7.out; have := Z8.out; have := Z9.out; have := Z10.out; have := Z11.out; have := Z12.out; have := Z13.out; have := Z14.out; have := Z15.out; have := Z16.out; have := Z17.out; have := Z18.out; omega))
  replace BB := hid (BB.out.trans (hI.below (by have := Z1.out; have := Z2.out; have := Z3.out; have := Z4.out; have := Z5.out; have := Z6.out; have := Z7.out; have := Z8.out; have := Z9.out; have := Z10.out; have := Z11.out; have := Z12.out; have := Z13.out; have := Z14.out; have := Z15.out; have := Z16.out; have := Z17.out; have := Z18.out; omega) BB.out.size))
  replace BW := hid (BW.out.trans (hI.below (by have := Z1.out; have := Z2.out; have := Z3.out; have := Z4.out; have := Z5.out; have := Z6.out; have := Z7.out; have := Z8.out; have := Z9.out; have := Z10.out; have := Z11.out; have := Z12.out; have := Z13.out; have := Z14.out; have := Z15.out; have := Z16.out; have := Z17.out; have := Z18.out; omega) BW.out.size))
  have Z19 := hid (hI.size)
  clear hI
  obtain ⟨m1, hm1⟩ : ∃ m : Nat, m = 1 + l.length * 4 := ⟨_, rfl⟩
  rw [← hm1]
  have HM := hid hm1
  clear hm1
  have hm0 : decide ((m1 : Int) < 0) = false := decide_eq_false (by omega)
  obtain ⟨⟨vw_0, vw_1, vw_2⟩, -⟩ := var3_facts VW.out
  obtain ⟨⟨vg_0, vg_1, vg_2⟩, -⟩ := var3_facts VG.out
  go_wp2_with fail
  clear vw_0 vw_1 vw_2 vg_0 vg_1 vg_2
  refine (heldVRo c ct _ l 1 _ rfl _ OG.out.rd hl (by omega)).mono ?_
  rintro e w18 ⟨rfl, hB⟩
  rw [← HM.out]
  replace VW := hid (var_below hB VW.out)
  replace VG := hid (var_below hB VG.out)
  replace OG := hid (OG.out.below hB)
  replace BB := hid (BB.out.trans (hB.mono BB.out.size))
  replace BW := hid (BW.out.trans (hB.mono BW.out.size))
  have Z20 := hid (hB.size)
  clear hB
  obtain ⟨⟨vw_0, vw_1, vw_2⟩, -⟩ := var3_facts VW.out
  obtain ⟨⟨vg_0, vg_1, vg_2⟩, -⟩ := var3_facts VG.out
  go_wp2_with fail
  clear vw_0 vw_1 vw_2 vg_0 vg_1 vg_2
  refine (toCS _ cs0 _ (HA0.out.below BB.out) hk0).mono ?_
  rintro e w19 ⟨gT0, rfl, hF, hB⟩
  have T0 := hid hF.rd
  clear hF
  replace VW := hid (var_below hB VW.out)
  replace VG := hid (var_below hB VG.out)
  replace OG := hid (OG.out.below hB)
  replace BB := hid (BB.out.trans (hB.mono BB.out.size))
  replace BW := hid (BW.out.trans (hB.mono BW.out.size))
  have Z21 := hid (hB.size)
  clear hB
  obtain ⟨⟨vw_0, vw_1, vw_2⟩, -⟩ := var3_facts VW.out
  obtain ⟨⟨vg_0, vg_1, vg_2⟩, -⟩ := var3_facts VG.out
  go_wp2_with fail
  clear vw_0 vw_1 vw_2 vg_0 vg_1 vg_2
  refine (toCS _ cs1 _ (HA1.out.below BB.out) hk1).mono ?_
  rintro e w20 ⟨gT1, rfl, hF, hB⟩
  have T1 := hid hF.rd
  clear hF
  replace T0 := hid (T0.out.below hB)
  replace VW := hid (var_below hB VW.out)
  replace VG := hid (var_below hB VG.out)
  replace OG := hid (OG.out.below hB)
  replace BB := hid (BB.out.trans (hB.mono BB.out.size))
  replace BW := hid (BW.out.trans (hB.mono BW.out.size))
  have Z22 := hid (hB.size)
  clear hB
  obtain ⟨⟨vw_0, vw_1, vw_2⟩, -⟩ := var3_facts VW.out
  obtain ⟨⟨vg_0, vg_1, vg_2⟩, -⟩ := var3_facts VG.out
  go_wp2_with fail
  clear vw_0 vw_1 vw_2 vg_0 vg_1 vg_2
  refine (IP.out _ _ _ hk0 hk1 T0.out T1.out).mono ?_
  rintro e w21 ⟨v, rfl, hR, hB⟩
  obtain ⟨pv, kv, rfl, -, -, -⟩ := hR.rd.parts
  have OH := hid hR.rd
  clear hR
  replace VW := hid (var_below hB VW.out)
  replace VG := hid (var_below hB VG.out)
  replace OG := hid (OG.out.below hB)
  replace BB := hid (BB.out.trans (hB.mono BB.out.size))
  replace BW := hid (BW.out.trans (hB.mono BW.out.size))
  have Z23 := hid (hB.size)
  clear hB
  clear T0 T1
  obtain ⟨pH, kH, hpk⟩ : ∃ a b, a = pv ∧ b = kv := ⟨_, _, rfl, rfl⟩
  obtain ⟨rfl, rfl⟩ := hpk
  have VH := hid (heap_alloc_new w21 (.cells #[.int .i64 c, .slice pH l.length kH, .bool ct] 26))
  have hA := below_alloc1 w21 (.cells #[.int .i64 c, .slice pH l.length kH, .bool ct] 26)
  replace VW := hid (var_below hA VW.out)
  replace VG := hid (var_below hA VG.out)
  replace OG := hid (OG.out.below hA)
  replace OH := hid (OH.out.below hA)
  replace BB := hid (BB.out.trans (hA.mono BB.out.size))
  replace BW := hid (BW.out.trans (hA.mono BW.out.size))
  have Z24 := hid (show w21.heap.size < (w21.alloc (.cells #[.int .i64 c, .slice pH l.length kH, .bool ct] 26)).heap.size by simp)
  clear hA
  obtain ⟨⟨vw_0, vw_1, vw_2⟩, -⟩ := var3_facts VW.out
  obtain ⟨⟨vg_0, vg_1, vg_2⟩, -⟩ := var3_facts VG.out
  obtain ⟨⟨vh_0, vh_1, vh_2⟩, -⟩ := var3_facts VH.out
  go_wp2_with fail
  clear vw_0 vw_1 vw_2 vg_0 vg_1 vg_2 vh_0 vh_1 vh_2
  generalize w21.alloc (.cells #[.int .i64 c, .slice pH l.length kH, .bool ct] 26) = w21a at *
  refine (eqVR c ct _ _ l _ OH.out (RW.out.below BW.out) hl).mono ?_
  rintro e w22 ⟨rfl, hB⟩
  replace VW := hid (var_below hB VW.out)
  replace VG := hid (var_below hB VG.out)
  replace VH := hid (var_below hB VH.out)
  replace OG := hid (OG.out.below hB)
  replace OH := hid (OH.out.below hB)
  replace BB := hid (BB.out.trans (hB.mono BB.out.size))
  replace BW := hid (BW.out.trans (hB.mono BW.out.size))
  have Z25 := hid (hB.size)
  clear hB
  clear OH
  obtain ⟨⟨vw_0, vw_1, vw_2⟩, -⟩ := var3_facts VW.out
  obtain ⟨⟨vg_0, vg_1, vg_2⟩, -⟩ := var3_facts VG.out
  obtain ⟨⟨vh_0, vh_1, vh_2⟩, -⟩ := var3_facts VH.out
  go_wp2_with fail
  clear vw_0 vw_1 vw_2 vg_0 vg_1 vg_2 vh_0 vh_1 vh_2
  refine (heldVRo c ct _ l 1 _ rfl _ OG.out.rd hl (by omega)).mono ?_
  rintro e w23 ⟨rfl, hB⟩
  rw [← HM.out]
  replace VW := hid (var_below hB VW.out)
  replace VG := hid (var_below hB VG.out)
  replace VH := hid (var_below hB VH.out)
  replace OG := hid (OG.out.below hB)
  replace BB := hid (BB.out.trans (hB.mono BB.out.size))
  replace BW := hid (BW.out.trans (hB.mono BW.out.size))
  have Z26 := hid (hB.size)
  clear hB
  go_wp2
  go_ret
  exact ⟨rfl, BB.out⟩
end Go.Proofs.Ytpcndgmmdpgpmao.W
