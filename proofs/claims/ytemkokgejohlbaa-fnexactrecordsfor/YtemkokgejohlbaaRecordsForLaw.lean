/-
  The exact law of RecordsFor, out of the contracts of its callees.
-/
import Derived.Test.YtemkokgejohlbaaRsS
import Derived.Test.YtemkokgejohlbaaRsI
import Derived.Test.YtemkokgejohlbaaRcX
import Derived.Test.YtemkokgejohlbaaVwK
import Derived.Test.YtemkokgejohlbaaVwXm
namespace Go.Proofs.Ytemkokgejohlbaa.W
open Go.ChangeShapes Go.WideShapes Go.ChangeAt Go.RowKit
open Go.Proofs.Ytemkokgejohlbaa.M

set_option maxHeartbeats 4000000 in
set_option maxRecDepth 100000 in
theorem law_RecordsFor (n1 n2 c : Int) (cs0 : List Clm) (l : List Rcd) (a0 : Value) (w : World) (hl : l.length ≤ 1048576)
    (h0 : RdC w a0 cs0)
    (SP : Hid (∀ (w : World) (v0 : Value), cs0.length ≤ 1048576 → RdC w v0 cs0 → Calls Try.prog 5 #[v0, .int .i64 n1, .int .i64 n2] w fun e w' => ∃ v, e = .returned (.agg #[.int .i64 c, v]) ∧ RdD w' v l ∧ Below w.heap.size w w'))
    (IP : Hid (∀ (w : World) (v0 : Value), cs0.length ≤ 1048576 → RdC w v0 cs0 → Calls Try.prog 7 #[v0, .int .i64 n1, .int .i64 n2] w fun e w' => ∃ v, e = .returned (.agg #[.int .i64 c, v]) ∧ OD w' w.heap.size w'.heap.size v l ∧ Below w.heap.size w w')) :
    Calls Try.prog 3 #[a0, .int .i64 n1, .int .i64 n2] w fun e w' => e = .returned (.bool true) ∧ Below w.heap.size w w' := by
  have HA0 := hid h0
  obtain ⟨b0, cap0, rfl, hlc, hcm, -⟩ := h0.parts
  have LM0 := hid (Nat.le_trans hlc hcm)
  clear h0 hlc hcm
  have BB := hid (Below.refl w.heap.size w)
  go_enter Try.func3, Try.ntmps3
  go_wp2_with fail
  refine (szCS _ cs0 1048576 _ (HA0.out.below BB.out) (by omega) (by omega)).mono ?_
  rintro e w1 ⟨rfl, hB⟩
  replace BB := hid (BB.out.trans (hB.mono BB.out.size))
  have Z1 := hid (hB.size)
  clear hB
  by_cases hz0 : (1048576 : Int) < cs0.length
  · rw [show szC 1048576 cs0.length = -1 by rw [szC, if_pos hz0]]
    go_wp2
    go_ret
    exact ⟨rfl, BB.out⟩
  obtain ⟨lf0, e1⟩ : ∃ r, r = szC 1048576 cs0.length := ⟨_, rfl⟩
  have e1' : szC 1048576 cs0.length = 1048576 - cs0.length := by rw [szC, if_neg hz0]
  have gV0 : 0 ≤ lf0 := by rw [e1, e1']; omega
  have fV0 : lf0 ≤ 1048576 := by rw [e1, e1']; omega
  have hk0 : cs0.length ≤ 1048576 := by omega
  rw [← e1]
  clear e1 e1' hz0
  go_wp2_with fail
  refine (toCS _ cs0 _ (HA0.out.below BB.out) hk0).mono ?_
  rintro e w2 ⟨gT0, rfl, hF, hB⟩
  have T0 := hid hF.rd
  clear hF
  replace BB := hid (BB.out.trans (hB.mono BB.out.size))
  have Z2 := hid (hB.size)
  clear hB
  go_wp2_with fail
  refine (SP.out _ _ hk0 T0.out).mono ?_
  rintro e w3 ⟨v, rfl, hR, hB⟩
  obtain ⟨pv, kv, rfl, -, -, -⟩ := hR.parts
  have RW := hid hR
  clear hR
  replace BB := hid (BB.out.trans (hB.mono BB.out.size))
  have Z3 := hid (hB.size)
  clear hB
  clear T0
  have BW := hid (Below.refl w3.heap.size w3)
  obtain ⟨pW, kW, hpk⟩ : ∃ a b, a = pv ∧ b = kv := ⟨_, _, rfl, rfl⟩
  obtain ⟨rfl, rfl⟩ := hpk
  have VW := hid (heap_alloc_new w3 (.cells #[.int .i64 c, .slice pW l.length kW] 26))
  have hA := below_alloc1 w3 (.cells #[.int .i64 c, .slice pW l.length kW] 26)
  replace BB := hid (BB.out.trans (hA.mono BB.out.size))
  replace BW := hid (BW.out.trans (hA.mono BW.out.size))
  have Z4 := hid (show w3.heap.size < (w3.alloc (.cells #[.int .i64 c, .slice pW l.length kW] 26)).heap.size by simp)
  clear hA
  obtain ⟨vw_0, vw_1, -, -⟩ := var2_facts VW.out
  go_wp2_with fail
  clear vw_0 vw_1
  generalize w3.alloc (.cells #[.int .i64 c, .slice pW l.length kW] 26) = w3a at *
  refine (toCS _ cs0 _ (HA0.out.below BB.out) hk0).mono ?_
  rintro e w4 ⟨gX0, rfl, hF, hB⟩
  have X0 := hid hF
  clear hF
  replace VW := hid (var_below hB VW.out)
  replace BB := hid (BB.out.trans (hB.mono BB.out.size))
  replace BW := hid (BW.out.trans (hB.mono BW.out.size))
  have Z5 := hid (hB.size)
  clear hB
  obtain ⟨vw_0, vw_1, -, -⟩ := var2_facts VW.out
  go_wp2_with fail
  clear vw_0 vw_1
  refine (IP.out _ _ hk0 X0.out.rd).mono ?_
  rintro e w5 ⟨v, rfl, hF, hB⟩
  obtain ⟨pG, kG, rfl, -, -, -⟩ := hF.rd.parts
  have OG := hid hF
  clear hF
  replace VW := hid (var_below hB VW.out)
  replace X0 := hid (X0.out.below hB)
  replace BB := hid (BB.out.trans (hB.mono BB.out.size))
  replace BW := hid (BW.out.trans (hB.mono BW.out.size))
  have Z6 := hid (hB.size)
  clear hB
  have VG := hid (heap_alloc_new w5 (.cells #[.int .i64 c, .slice pG l.length kG] 26))
  have hA := below_alloc1 w5 (.cells #[.int .i64 c, .slice pG l.length kG] 26)
  replace VW := hid (var_below hA VW.out)
  replace X0 := hid (X0.out.below hA)
  replace OG := hid (OG.out.below hA)
  replace BB := hid (BB.out.trans (hA.mono BB.out.size))
  replace BW := hid (BW.out.trans (hA.mono BW.out.size))
  have Z7 := hid (show w5.heap.size < (w5.alloc (.cells #[.int .i64 c, .slice pG l.length kG] 26)).heap.size by simp)
  clear hA
  obtain ⟨vw_0, vw_1, -, -⟩ := var2_facts VW.out
  obtain ⟨vg_0, vg_1, -, -⟩ := var2_facts VG.out
  go_wp2_with fail
  clear vw_0 vw_1 vg_0 vg_1
  generalize w5.alloc (.cells #[.int .i64 c, .slice pG l.length kG] 26) = w5a at *
  refine (eqDR c _ _ l _ OG.out.rd (RW.out.below BW.out) hl).mono ?_
  rintro e w6 ⟨rfl, hB⟩
  replace VW := hid (var_below hB VW.out)
  replace VG := hid (var_below hB VG.out)
  replace X0 := hid (X0.out.below hB)
  replace OG := hid (OG.out.below hB)
  replace BB := hid (BB.out.trans (hB.mono BB.out.size))
  replace BW := hid (BW.out.trans (hB.mono BW.out.size))
  have Z8 := hid (hB.size)
  clear hB
  obtain ⟨vw_0, vw_1, -, -⟩ := var2_facts VW.out
  obtain ⟨vg_0, vg_1, -, -⟩ := var2_facts VG.out
  go_wp2_with fail
  clear vw_0 vw_1 vg_0 vg_1
  refine (toCS _ cs0 _ (HA0.out.below BB.out) hk0).mono ?_
  rintro e w7 ⟨gY, rfl, hF, hB⟩
  have Y := hid hF.rd
  clear hF
  replace VW := hid (var_below hB VW.out)
  replace VG := hid (var_below hB VG.out)
  replace X0 := hid (X0.out.below hB)
  replace OG := hid (OG.out.below hB)
  replace BB := hid (BB.out.trans (hB.mono BB.out.size))
  replace BW := hid (BW.out.trans (hB.mono BW.out.size))
  have Z9 := hid (hB.size)
  clear hB
  obtain ⟨vw_0, vw_1, -, -⟩ := var2_facts VW.out
  obtain ⟨vg_0, vg_1, -, -⟩ := var2_facts VG.out
  go_wp2_with fail
  clear vw_0 vw_1 vg_0 vg_1
  refine (eqCS _ _ cs0 _ X0.out.rd Y.out hk0).mono ?_
  rintro e w8 ⟨rfl, hB⟩
  clear Y
  replace VW := hid (var_below hB VW.out)
  replace VG := hid (var_below hB VG.out)
  replace X0 := hid (X0.out.below hB)
  replace OG := hid (OG.out.below hB)
  replace BB := hid (BB.out.trans (hB.mono BB.out.size))
  replace BW := hid (BW.out.trans (hB.mono BW.out.size))
  have Z10 := hid (hB.size)
  clear hB
  obtain ⟨vw_0, vw_1, -, -⟩ := var2_facts VW.out
  obtain ⟨vg_0, vg_1, -, -⟩ := var2_facts VG.out
  go_wp2_with fail
  clear vw_0 vw_1 vg_0 vg_1
  refine (markCo _ cs0 1 _ rfl _ _ _ X0.out hk0 (by omega)).mono ?_
  rintro e w9 ⟨rfl, -, hI⟩
  replace VW := hid (hI.var VW.out (by have := Z1.out; have := Z2.out; have := Z3.out; have := Z4.out; have := Z5.out; have := Z6.out; have := Z7.out; have := Z8.out; have := Z9.out; have := Z10.out; omega))
  replace VG := hid (hI.var VG.out (by have := Z1.out; have := Z2.out; have := Z3.out; have := Z4.out; have := Z5.out; have := Z6.out; have := Z7.out; have := Z8.out; have := Z9.out; have := Z10.out; omega))
  replace OG := hid (OG.out.agr (Agr.of_ins hI (by have := Z1.out; have := Z2.out; have := Z3.out; have := Z4.out; have := Z5.out; have := Z6.out; have := Z7.out; have := Z8.out; have := Z9.out; have := Z10.out; omega) (by have := Z1.out; have := Z2.out; have := Z3.out; have := Z4.out; have := Z5.out; have := Z6.out; have := Z7.out; have := Z8.out; have := Z9.out; have := Z10.out; omega)))
  replace BB := hid (BB.out.trans (hI.below (by have := Z1.out; have := Z2.out; have := Z3.out; have := Z4.out; have := Z5.out; have := Z6.out; have := Z7.out; have := Z8.out; have := Z9.out; have := Z10.out; omega) BB.out.size))
  replace BW := hid (BW.out.trans (hI.below (by have := Z1.out; have := Z2.out; have := Z3.out; have := Z4.out; have := Z5.out; have := Z6.out; have := Z7.out; have := Z8.out; have := Z9.out; have := Z10.out; omega) BW.out.size))
  have Z11 := hid (hI.size)
  clear hI
  clear X0
  obtain ⟨k1, hkk⟩ : ∃ m : Nat, m = 1 + cs0.length * 4 := ⟨_, rfl⟩
  rw [← hkk]
  have kb1 : k1 ≤ 10485761 := by omega
  clear hkk
  have hk0 : decide ((k1 : Int) < 0) = false := decide_eq_false (by omega)
  obtain ⟨vw_0, vw_1, -, -⟩ := var2_facts VW.out
  obtain ⟨vg_0, vg_1, -, -⟩ := var2_facts VG.out
  go_wp2_with fail
  clear vw_0 vw_1 vg_0 vg_1
  refine (eqDR c _ _ l _ OG.out.rd (RW.out.below BW.out) hl).mono ?_
  rintro e w10 ⟨rfl, hB⟩
  replace VW := hid (var_below hB VW.out)
  replace VG := hid (var_below hB VG.out)
  replace OG := hid (OG.out.below hB)
  replace BB := hid (BB.out.trans (hB.mono BB.out.size))
  replace BW := hid (BW.out.trans (hB.mono BW.out.size))
  have Z12 := hid (hB.size)
  clear hB
  clear hk0
  obtain ⟨vw_0, vw_1, -, -⟩ := var2_facts VW.out
  obtain ⟨vg_0, vg_1, -, -⟩ := var2_facts VG.out
  go_wp2_with fail
  clear vw_0 vw_1 vg_0 vg_1
  refine (markDRo c _ l 1 _ rfl _ _ _ OG.out hl (by omega)).mono ?_
  rintro e w11 ⟨rfl, hF, hI⟩
  replace OG := hid hF
  clear hF
  replace VW := hid (hI.var VW.out (by have := Z1.out; have := Z2.out; have := Z3.out; have := Z4.out; have := Z5.out; have := Z6.out; have := Z7.out; have := Z8.out; have := Z9.out; have := Z10.out; have := Z11.out; have := Z12.out; omega))
  replace VG := hid (hI.var VG.out (by have := Z1.out; have := Z2.out; have := Z3.out; have := Z4.out; have := Z5.out; have := Z6.out; have := Z7.out; have := Z8.out; have := Z9.out; have := Z10.out; have := Z11.out; have := Z12.out; omega))
  replace BB := hid (BB.out.trans (hI.below (by have := Z1.out; have := Z2.out; have := Z3.out; have := Z4.out; have := Z5.out; have := Z6.out; have := Z7.out; have := Z8.out; have := Z9.out; have := Z10.out; have := Z11.out; have := Z12.out; omega) BB.out.size))
  replace BW := hid (BW.out.trans (hI.below (by have := Z1.out; have := Z2.out; have := Z3.out; have := Z4.out; have := Z5.out; have := Z6.out; have := Z7.out; have := Z8.out; have := Z9.out; have := Z10.out; have := Z11.out; have := Z12.out; omega) BW.out.size))
  have Z13 := hid (hI.size)
  clear hI
  obtain ⟨m1, hm1⟩ : ∃ m : Nat, m = 1 + l.length * 3 := ⟨_, rfl⟩
  rw [← hm1]
  have HM := hid hm1
  clear hm1
  have hm0 : decide ((m1 : Int) < 0) = false := decide_eq_false (by omega)
  obtain ⟨vw_0, vw_1, -, -⟩ := var2_facts VW.out
  obtain ⟨vg_0, vg_1, -, -⟩ := var2_facts VG.out
  go_wp2_with fail
  clear vw_0 vw_1 vg_0 vg_1
  refine (heldDRo c _ l 1 _ rfl _ OG.out.rd hl (by omega)).mono ?_
  rintro e w12 ⟨rfl, hB⟩
  rw [← HM.out]
  replace VW := hid (var_below hB VW.out)
  replace VG := hid (var_below hB VG.out)
  replace OG := hid (OG.out.below hB)
  replace BB := hid (BB.out.trans (hB.mono BB.out.size))
  replace BW := hid (BW.out.trans (hB.mono BW.out.size))
  have Z14 := hid (hB.size)
  clear hB
  obtain ⟨vw_0, vw_1, -, -⟩ := var2_facts VW.out
  obtain ⟨vg_0, vg_1, -, -⟩ := var2_facts VG.out
  go_wp2_with fail
  clear vw_0 vw_1 vg_0 vg_1
  refine (toCS _ cs0 _ (HA0.out.below BB.out) hk0).mono ?_
  rintro e w13 ⟨gT0, rfl, hF, hB⟩
  have T0 := hid hF.rd
  clear hF
  replace VW := hid (var_below hB VW.out)
  replace VG := hid (var_below hB VG.out)
  replace OG := hid (OG.out.below hB)
  replace BB := hid (BB.out.trans (hB.mono BB.out.size))
  replace BW := hid (BW.out.trans (hB.mono BW.out.size))
  have Z15 := hid (hB.size)
  clear hB
  obtain ⟨vw_0, vw_1, -, -⟩ := var2_facts VW.out
  obtain ⟨vg_0, vg_1, -, -⟩ := var2_facts VG.out
  go_wp2_with fail
  clear vw_0 vw_1 vg_0 vg_1
  refine (IP.out _ _ hk0 T0.out).mono ?_
  rintro e w14 ⟨v, rfl, hR, hB⟩
  obtain ⟨pv, kv, rfl, -, -, -⟩ := hR.rd.parts
  have OH := hid hR.rd
  clear hR
  replace VW := hid (var_below hB VW.out)
  replace VG := hid (var_below hB VG.out)
  replace OG := hid (OG.out.below hB)
  replace BB := hid (BB.out.trans (hB.mono BB.out.size))
  replace BW := hid (BW.out.trans (hB.mono BW.out.size))
  have Z16 := hid (hB.size)
  clear hB
  clear T0
  obtain ⟨pH, kH, hpk⟩ : ∃ a b, a = pv ∧ b = kv := ⟨_, _, rfl, rfl⟩
  obtain ⟨rfl, rfl⟩ := hpk
  have VH := hid (heap_alloc_new w14 (.cells #[.int .i64 c, .slice pH l.length kH] 26))
  have hA := below_alloc1 w14 (.cells #[.int .i64 c, .slice pH l.length kH] 26)
  replace VW := hid (var_below hA VW.out)
  replace VG := hid (var_below hA VG.out)
  replace OG := hid (OG.out.below hA)
  replace OH := hid (OH.out.below hA)
  replace BB := hid (BB.out.trans (hA.mono BB.out.size))
  replace BW := hid (BW.out.trans (hA.mono BW.out.size))
  have Z17 := hid (show w14.heap.size < (w14.alloc (.cells #[.int .i64 c, .slice pH l.length kH] 26)).heap.size by simp)
  clear hA
  obtain ⟨vw_0, vw_1, -, -⟩ := var2_facts VW.out
  obtain ⟨vg_0, vg_1, -, -⟩ := var2_facts VG.out
  obtain ⟨vh_0, vh_1, -, -⟩ := var2_facts VH.out
  go_wp2_with fail
  clear vw_0 vw_1 vg_0 vg_1 vh_0 vh_1
  generalize w14.alloc (.cells #[.int .i64 c, .slice pH l.length kH] 26) = w14a at *
  refine (eqDR c _ _ l _ OH.out (RW.out.below BW.out) hl).mono ?_
  rintro e w15 ⟨rfl, hB⟩
  replace VW := hid (var_below hB VW.out)
  replace VG := hid (var_below hB VG.out)
  replace VH := hid (var_below hB VH.out)
  replace OG := hid (OG.out.below hB)
  replace OH := hid (OH.out.below hB)
  replace BB := hid (BB.out.trans (hB.mono BB.out.size))
  replace BW := hid (BW.out.trans (hB.mono BW.out.size))
  have Z18 := hid (hB.size)
  clear hB
  clear OH
  obtain ⟨vw_0, vw_1, -, -⟩ := var2_facts VW.out
  obtain ⟨vg_0, vg_1, -, -⟩ := var2_facts VG.out
  obtain ⟨vh_0, vh_1, -, -⟩ := var2_facts VH.out
  go_wp2_with fail
  clear vw_0 vw_1 vg_0 vg_1 vh_0 vh_1
  refine (heldDRo c _ l 1 _ rfl _ OG.out.rd hl (by omega)).mono ?_
  rintro e w16 ⟨rfl, hB⟩
  rw [← HM.out]
  replace VW := hid (var_below hB VW.out)
  replace VG := hid (var_below hB VG.out)
  replace VH := hid (var_below hB VH.out)
  replace OG := hid (OG.out.below hB)
  replace BB := hid (BB.out.trans (hB.mono BB.out.size))
  replace BW := hid (BW.out.trans (hB.mono BW.out.size))
  have Z19 := hid (hB.size)
  clear hB
  go_wp2
  go_ret
  exact ⟨rfl, BB.out⟩
end Go.Proofs.Ytemkokgejohlbaa.W
