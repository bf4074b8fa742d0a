/-
  The exact law of ReadHead, out of the contracts of its callees.
-/
import Derived.Test.YtckgjghpfjinfakLetR
import Derived.Test.YtckgjghpfjinfakSlB
namespace Go.Proofs.Ytckgjghpfjinfak.W
open Go.ChangeShapes Go.WideShapes Go.ChangeAt Go.RowKit
open Go.Proofs.Ytckgjghpfjinfak.M

set_option maxHeartbeats 4000000 in
set_option maxRecDepth 100000 in
theorem law_ReadHead (c rk rs rc : Int) (l0 : List Nat) (l : List Nat) (a0 : Value) (w : World) (hl : l.length ≤ 1048576)
    (h0 : Rd w a0 l0)
    (SP : Hid (∀ (w : World) (v0 : Value), Rd w v0 l0 → Calls Try.prog 20 #[v0] w fun e w' => ∃ v, e = .returned (.agg #[.int .i64 c, .int .i64 rk, .int .i64 rs, .int .i64 rc, v]) ∧ Rd w' v l ∧ Below w.heap.size w w'))
    (IP : Hid (∀ (w : World) (v0 : Value), Rd w v0 l0 → Calls Try.prog 22 #[v0] w fun e w' => ∃ v, e = .returned (.agg #[.int .i64 c, .int .i64 rk, .int .i64 rs, .int .i64 rc, v]) ∧ OB w' w.heap.size w'.heap.size v l ∧ Below w.heap.size w w')) :
    Calls Try.prog 6 #[a0] w fun e w' => e = .returned (.bool true) ∧ Below w.heap.size w w' := by
  have HA0 := hid h0
  obtain ⟨b0, cap0, rfl, hlc, hcm, -⟩ := h0.parts
  have LM0 := hid (Nat.le_trans hlc hcm)
  clear h0 hlc hcm
  by_cases hk0 : l0.length ≤ 1048576
  case neg =>
    go_enter Try.func6, Try.ntmps6
    go_wp2
    go_ret
    exact ⟨rfl, Below.refl _ _⟩
  have BB := hid (Below.refl w.heap.size w)
  go_enter Try.func6, Try.ntmps6
  go_wp2_with fail
  refine (toO _ l0 _ (HA0.out.below BB.out) hk0).mono ?_
  rintro e w1 ⟨gT0, rfl, hF, hB⟩
  have T0 := hid hF.rd
  clear hF
  replace BB := hid (BB.out.trans (hB.mono BB.out.size))
  have Z1 := hid (hB.size)
  clear hB
  go_wp2_with fail
  refine (SP.out _ _ T0.out).mono ?_
  rintro e w2 ⟨v, rfl, hR, hB⟩
  obtain ⟨pv, kv, rfl, -, -, -⟩ := hR.parts
  have RW := hid hR
  clear hR
  replace BB := hid (BB.out.trans (hB.mono BB.out.size))
  have Z2 := hid (hB.size)
  clear hB
  clear T0
  have BW := hid (Below.refl w2.heap.size w2)
  obtain ⟨pW, kW, hpk⟩ : ∃ a b, a = pv ∧ b = kv := ⟨_, _, rfl, rfl⟩
  obtain ⟨rfl, rfl⟩ := hpk
  have VW := hid (heap_alloc_new w2 (.cells #[.int .i64 c, .int .i64 rk, .int .i64 rs, .int .i64 rc, .slice pW l.length kW] 40))
  have hA := below_alloc1 w2 (.cells #[.int .i64 c, .int .i64 rk, .int .i64 rs, .int .i64 rc, .slice pW l.length kW] 40)
  replace BB := hid (BB.out.trans (hA.mono BB.out.size))
  replace BW := hid (BW.out.trans (hA.mono BW.out.size))
  have Z3 := hid (show w2.heap.size < (w2.alloc (.cells #[.int .i64 c, .int .i64 rk, .int .i64 rs, .int .i64 rc, .slice pW l.length kW] 40)).heap.size by simp)
  clear hA
  obtain ⟨⟨vw_0, vw_1, vw_2, vw_3, vw_4⟩, -⟩ := var5_facts VW.out
  go_wp2_with fail
  clear vw_0 vw_1 vw_2 vw_3 vw_4
  generalize w2.alloc (.cells #[.int .i64 c, .int .i64 rk, .int .i64 rs, .int .i64 rc, .slice pW l.length kW] 40) = w2a at *
  refine (toO _ l0 _ (HA0.out.below BB.out) hk0).mono ?_
  rintro e w3 ⟨gX0, rfl, hF, hB⟩
  have X0 := hid hF
  clear hF
  replace VW := hid (var_below hB VW.out)
  replace BB := hid (BB.out.trans (hB.mono BB.out.size))
  replace BW := hid (BW.out.trans (hB.mono BW.out.size))
  have Z4 := hid (hB.size)
  clear hB
  obtain ⟨⟨vw_0, vw_1, vw_2, vw_3, vw_4⟩, -⟩ := var5_facts VW.out
  go_wp2_with fail
  clear vw_0 vw_1 vw_2 vw_3 vw_4
  refine (IP.out _ _ X0.out.rd).mono ?_
  rintro e w4 ⟨v, rfl, hF, hB⟩
  obtain ⟨pG, kG, rfl, -, -, -⟩ := hF.rd.parts
  have OG := hid hF
  clear hF
  replace VW := hid (var_below hB VW.out)
  replace X0 := hid (X0.out.below hB)
  replace BB := hid (BB.out.trans (hB.mono BB.out.size))
  replace BW := hid (BW.out.trans (hB.mono BW.out.size))
  have Z5 := hid (hB.size)
  clear hB
  have VG := hid (heap_alloc_new w4 (.cells #[.int .i64 c, .int .i64 rk, .int .i64 rs, .int .i64 rc, .slice pG l.length kG] 40))
  have hA := below_alloc1 w4 (.cells #[.int .i64 c, .int .i64 rk, .int .i64 rs, .int .i64 rc, .slice pG l.length kG] 40)
  replace VW := hid (var_below hA VW.out)
  replace X0 := hid (X0.out.below hA)
  replace OG := hid (OG.out.below hA)
  replace BB := hid (BB.out.trans (hA.mono BB.out.size))
  replace BW := hid (BW.out.trans (hA.mono BW.out.size))
  have Z6 := hid (show w4.heap.size < (w4.alloc (.cells #[.int .i64 c, .int .i64 rk, .int .i64 rs, .int .i64 rc, .slice pG l.length kG] 40)).heap.size by simp)
  clear hA
  obtain ⟨⟨vw_0, vw_1, vw_2, vw_3, vw_4⟩, -⟩ := var5_facts VW.out
  obtain ⟨⟨vg_0, vg_1, vg_2, vg_3, vg_4⟩, -⟩ := var5_facts VG.out
  go_wp2_with fail
  clear vw_0 vw_1 vw_2 vw_3 vw_4 vg_0 vg_1 vg_2 vg_3 vg_4
  generalize w4.alloc (.cells #[.int .i64 c, .int .i64 rk, .int .i64 rs, .int .i64 rc, .slice pG l.length kG] 40) = w4a at *
  refine (eqLR c rk rs rc _ _ l _ OG.out.rd (RW.out.below BW.out) hl).mono ?_
  rintro e w5 ⟨rfl, hB⟩
  replace VW := hid (var_below hB VW.out)
  replace VG := hid (var_below hB VG.out)
  replace X0 := hid (X0.out.below hB)
  replace OG := hid (OG.out.below hB)
  replace BB := hid (BB.out.trans (hB.mono BB.out.size))
  replace BW := hid (BW.out.trans (hB.mono BW.out.size))
  have Z7 := hid (hB.size)
  clear hB
  obtain ⟨⟨vw_0, vw_1, vw_2, vw_3, vw_4⟩, -⟩ := var5_facts VW.out
  obtain ⟨⟨vg_0, vg_1, vg_2, vg_3, vg_4⟩, -⟩ := var5_facts VG.out
  go_wp2_with fail
  clear vw_0 vw_1 vw_2 vw_3 vw_4 vg_0 vg_1 vg_2 vg_3 vg_4
  refine (toO _ l0 _ (HA0.out.below BB.out) hk0).mono ?_
  rintro e w6 ⟨gY, rfl, hF, hB⟩
  have Y := hid hF.rd
  clear hF
  replace VW := hid (var_below hB VW.out)
  replace VG := hid (var_below hB VG.out)
  replace X0 := hid (X0.out.below hB)
  replace OG := hid (OG.out.below hB)
  replace BB := hid (BB.out.trans (hB.mono BB.out.size))
  replace BW := hid (BW.out.trans (hB.mono BW.out.size))
  have Z8 := hid (hB.size)
  clear hB
  obtain ⟨⟨vw_0, vw_1, vw_2, vw_3, vw_4⟩, -⟩ := var5_facts VW.out
  obtain ⟨⟨vg_0, vg_1, vg_2, vg_3, vg_4⟩, -⟩ := var5_facts VG.out
  go_wp2_with fail
  clear vw_0 vw_1 vw_2 vw_3 vw_4 vg_0 vg_1 vg_2 vg_3 vg_4
  refine (eqB _ _ l0 _ X0.out.rd Y.out hk0).mono ?_
  rintro e w7 ⟨rfl, hB⟩
  clear Y
  replace VW := hid (var_below hB VW.out)
  replace VG := hid (var_below hB VG.out)
  replace X0 := hid (X0.out.below hB)
  replace OG := hid (OG.out.below hB)
  replace BB := hid (BB.out.trans (hB.mono BB.out.size))
  replace BW := hid (BW.out.trans (hB.mono BW.out.size))
  have Z9 := hid (hB.size)
  clear hB
  obtain ⟨⟨vw_0, vw_1, vw_2, vw_3, vw_4⟩, -⟩ := var5_facts VW.out
  obtain ⟨⟨vg_0, vg_1, vg_2, vg_3, vg_4⟩, -⟩ := var5_facts VG.out
  go_wp2_with fail
  clear vw_0 vw_1 vw_2 vw_3 vw_4 vg_0 vg_1 vg_2 vg_3 vg_4
  refine (markOz _ l0 1 _ rfl _ _ _ X0.out hk0 (by omega)).mono ?_
  rintro e w8 ⟨rfl, -, hI⟩
  replace VW := hid (hI.var VW.out (by have := Z1.out; have := Z2.out; have := Z3.out; have := Z4.out; have := Z5.out; have := Z6.out; have := Z7.out; have := Z8.out; have := Z9.out; omega))
  replace VG := hid (hI.var VG.out (by have := Z1.out; have := Z2.out; have := Z3.out; have := Z4.out; have := Z5.out; have := Z6.out; have := Z7.out; have := Z8.out; have := Z9.out; omega))
  replace OG := hid (OG.out.agr (Agr.of_ins hI (by have := Z1.out; have := Z2.out; have := Z3.out; have := Z4.out; have := Z5.out; have := Z6.out; have := Z7.out; have := Z8.out; have := Z9.out; omega) (by have := Z1.out; have := Z2.out; have := Z3.out; have := Z4.out; have := Z5.out; have := Z6.out; have := Z7.out; have := Z8.out; have := Z9.out; omega)))
  replace BB := hid (BB.out.trans (hI.below (by have := Z1.out; have := Z2.out; have := Z3.out; have := Z4.out; have := Z5.out; have := Z6.out; have := Z7.out; have := Z8.out; have := Z9.out; omega) BB.out.size))
  replace BW := hid (BW.out.trans (hI.below (by have := Z1.out; have := Z2.out; have := Z3.out; have := Z4.out; have := Z5.out; have := Z6.out; have := Z7.out; have := Z8.out; have := Z9.out; omega) BW.out.size))
  have Z10 := hid (hI.size)
  clear hI
  clear X0
  obtain ⟨k1, hkk⟩ : ∃ m : Nat, m = 1 + l0.length := ⟨_, rfl⟩
  rw [← hkk]
  have kb1 : k1 ≤ 1048577 := by omega
  clear hkk
  have hk0 : decide ((k1 : Int) < 0) = false := decide_eq_false (by omega)
  obtain ⟨⟨vw_0, vw_1, vw_2, vw_3, vw_4⟩, -⟩ := var5_facts VW.out
  obtain ⟨⟨vg_0, vg_1, vg_2, vg_3, vg_4⟩, -⟩ := var5_facts VG.out
  go_wp2_with fail
  clear vw_0 vw_1 vw_2 vw_3 vw_4 vg_0 vg_1 vg_2 vg_3 vg_4
  refine (eqLR c rk rs rc _ _ l _ OG.out.rd (RW.out.below BW.out) hl).mono ?_
  rintro e w9 ⟨rfl, hB⟩
  replace VW := hid (var_below hB VW.out)
  replace VG := hid (var_below hB VG.out)
  replace OG := hid (OG.out.below hB)
  replace BB := hid (BB.out.trans (hB.mono BB.out.size))
  replace BW := hid (BW.out.trans (hB.mono BW.out.size))
  have Z11 := hid (hB.size)
  clear hB
  clear hk0
  obtain ⟨⟨vw_0, vw_1, vw_2, vw_3, vw_4⟩, -⟩ := var5_facts VW.out
  obtain ⟨⟨vg_0, vg_1, vg_2, vg_3, vg_4⟩, -⟩ := var5_facts VG.out
  go_wp2_with fail
  clear vw_0 vw_1 vw_2 vw_3 vw_4 vg_0 vg_1 vg_2 vg_3 vg_4
  refine (markLRo c rk rs rc _ l 1 _ rfl _ _ _ OG.out hl (by omega)).mono ?_
  rintro e w10 ⟨rfl, hF, hI⟩
  replace OG := hid hF
  clear hF
  replace VW := hid (hI.var VW.out (by have := Z1.out; have := Z2.out; have := Z3.out; have := Z4.out; have := Z5.out; have := Z6.out; have := Z7.out; have := Z8.out; have := Z9.out; have := Z10.out; have := Z11.out; omega))
  replace VG := hid (hI.var VG.out (by have := Z1.out; have := Z2.out; have := Z3.out; have := Z4.out; have := Z5.out; have := Z6.out; have := Z7.out; have := Z8.out; have := Z9.out; have := Z10.out; have := Z11.out; omega))
  replace BB := hid (BB.out.trans (hI.below (by have := Z1.out; have := Z2.out; have := Z3.out; have := Z4.out; have := Z5.out; have := Z6.out; have := Z7.out; have := Z8.out; have := Z9.out; have := Z10.out; have := Z11.out; omega) BB.out.size))
  replace BW := hid (BW.out.trans (hI.below (by have := Z1.out; have := Z2.out; have := Z3.out; have := Z4.out; have := Z5.out; have := Z6.out; have := Z7.out; have := Z8.out; have := Z9.out; have := Z10.out; have := Z11.out; omega) BW.out.size))
  have Z12 := hid (hI.size)
  clear hI
  obtain ⟨m1, hm1⟩ : ∃ m : Nat, m = 1 + l.length := ⟨_, rfl⟩
  rw [← hm1]
  have HM := hid hm1
  clear hm1
  have hm0 : decide ((m1 : Int) < 0) = false := decide_eq_false (by omega)
  obtain ⟨⟨vw_0, vw_1, vw_2, vw_3, vw_4⟩, -⟩ := var5_facts VW.out
  obtain ⟨⟨vg_0, vg_1, vg_2, vg_3, vg_4⟩, -⟩ := var5_facts VG.out
  go_wp2_with fail
  clear vw_0 vw_1 vw_2 vw_3 vw_4 vg_0 vg_1 vg_2 vg_3 vg_4
  refine (heldLRo c rk rs rc _ l 1 _ rfl _ OG.out.rd hl (by omega)).mono ?_
  rintro e w11 ⟨rfl, hB⟩
  rw [← HM.out]
  replace VW := hid (var_below hB VW.out)
  replace VG := hid (var_below hB VG.out)
  replace OG := hid (OG.out.below hB)
  replace BB := hid (BB.out.trans (hB.mono BB.out.size))
  replace BW := hid (BW.out.trans (hB.mono BW.out.size))
  have Z13 := hid (hB.size)
  clear hB
  obtain ⟨⟨vw_0, vw_1, vw_2, vw_3, vw_4⟩, -⟩ := var5_facts VW.out
  obtain ⟨⟨vg_0, vg_1, vg_2, vg_3, vg_4⟩, -⟩ := var5_facts VG.out
  go_wp2_with fail
  clear vw_0 vw_1 vw_2 vw_3 vw_4 vg_0 vg_1 vg_2 vg_3 vg_4
  refine (toO _ l0 _ (HA0.out.below BB.out) hk0).mono ?_
  rintro e w12 ⟨gT0, rfl, hF, hB⟩
  have T0 := hid hF.rd
  clear hF
  replace VW := hid (var_below hB VW.out)
  replace VG := hid (var_below hB VG.out)
  replace OG := hid (OG.out.below hB)
  replace BB := hid (BB.out.trans (hB.mono BB.out.size))
  replace BW := hid (BW.out.trans (hB.mono BW.out.size))
  have Z14 := hid (hB.size)
  clear hB
  obtain ⟨⟨vw_0, vw_1, vw_2, vw_3, vw_4⟩, -⟩ := var5_facts VW.out
  obtain ⟨⟨vg_0, vg_1, vg_2, vg_3, vg_4⟩, -⟩ := var5_facts VG.out
  go_wp2_with fail
  clear vw_0 vw_1 vw_2 vw_3 vw_4 vg_0 vg_1 vg_2 vg_3 vg_4
  refine (IP.out _ _ T0.out).mono ?_
  rintro e w13 ⟨v, rfl, hR, hB⟩
  obtain ⟨pv, kv, rfl, -, -, -⟩ := hR.rd.parts
  have OH := hid hR.rd
  clear hR
  replace VW := hid (var_below hB VW.out)
  replace VG := hid (var_below hB VG.out)
  replace OG := hid (OG.out.below hB)
  replace BB := hid (BB.out.trans (hB.mono BB.out.size))
  replace BW := hid (BW.out.trans (hB.mono BW.out.size))
  have Z15 := hid (hB.size)
  clear hB
  clear T0
  obtain ⟨pH, kH, hpk⟩ : ∃ a b, a = pv ∧ b = kv := ⟨_, _, rfl, rfl⟩
  obtain ⟨rfl, rfl⟩ := hpk
  have VH := hid (heap_alloc_new w13 (.cells #[.int .i64 c, .int .i64 rk, .int .i64 rs, .int .i64 rc, .slice pH l.length kH] 40))
  have hA := below_alloc1 w13 (.cells #[.int .i64 c, .int .i64 rk, .int .i64 rs, .int .i64 rc, .slice pH l.length kH] 40)
  replace VW := hid (var_below hA VW.out)
  replace VG := hid (var_below hA VG.out)
  replace OG := hid (OG.out.below hA)
  replace OH := hid (OH.out.below hA)
  replace BB := hid (BB.out.trans (hA.mono BB.out.size))
  replace BW := hid (BW.out.trans (hA.mono BW.out.size))
  have Z16 := hid (show w13.heap.size < (w13.alloc (.cells #[.int .i64 c, .int .i64 rk, .int .i64 rs, .int .i64 rc, .slice pH l.length kH] 40)).heap.size by simp)
  clear hA
  obtain ⟨⟨vw_0, vw_1, vw_2, vw_3, vw_4⟩, -⟩ := var5_facts VW.out
  obtain ⟨⟨vg_0, vg_1, vg_2, vg_3, vg_4⟩, -⟩ := var5_facts VG.out
  obtain ⟨⟨vh_0, vh_1, vh_2, vh_3, vh_4⟩, -⟩ := var5_facts VH.out
  go_wp2_with fail
  clear vw_0 vw_1 vw_2 vw_3 vw_4 vg_0 vg_1 vg_2 vg_3 vg_4 vh_0 vh_1 vh_2 vh_3 vh_4
  generalize w13.alloc (.cells #[.int .i64 c, .int .i64 rk, .int .i64 rs, .int .i64 rc, .slice pH l.length kH] 40) = w13a at *
  refine (eqLR c rk rs rc _ _ l _ OH.out (RW.out.below BW.out) hl).mono ?_
  rintro e w14 ⟨rfl, hB⟩
  replace VW := hid (var_below hB VW.out)
  replace VG := hid (var_below hB VG.out)
  replace VH := hid (var_below hB VH.out)
  replace OG := hid (OG.out.below hB)
  replace OH := hid (OH.out.below hB)
  replace BB := hid (BB.out.trans (hB.mono BB.out.size))
  replace BW := hid (BW.out.trans (hB.mono BW.out.size))
  have Z17 := hid (hB.size)
  clear hB
  clear OH
  obtain ⟨⟨vw_0, vw_1, vw_2, vw_3, vw_4⟩, -⟩ := var5_facts VW.out
  obtain ⟨⟨vg_0, vg_1, vg_2, vg_3, vg_4⟩, -⟩ := var5_facts VG.out
  obtain ⟨⟨vh_0, vh_1, vh_2, vh_3, vh_4⟩, -⟩ := var5_facts VH.out
  go_wp2_with fail
  clear vw_0 vw_1 vw_2 vw_3 vw_4 vg_0 vg_1 vg_2 vg_3 vg_4 vh_0 vh_1 vh_2 vh_3 vh_4
  refine (heldLRo c rk rs rc _ l 1 _ rfl _ OG.out.rd hl (by omega)).mono ?_
  rintro e w15 ⟨rfl, hB⟩
  rw [← HM.out]
  replace VW := hid (var_below hB VW.out)
  replace VG := hid (var_below hB VG.out)
  replace VH := hid (var_below hB VH.out)
  replace OG := hid (OG.out.below hB)
  replace BB := hid (BB.out.trans (hB.mono BB.out.size))
  replace BW := hid (BW.out.trans (hB.mono BW.out.size))
  have Z18 := hid (hB.size)
  clear hB
  go_wp2
  go_ret
  exact ⟨rfl, BB.out⟩
end Go.Proofs.Ytckgjghpfjinfak.W
