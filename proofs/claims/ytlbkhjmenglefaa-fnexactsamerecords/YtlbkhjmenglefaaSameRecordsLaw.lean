/-
  The exact law of SameRecords, out of the contracts of its callees. Generated text.
-/
import Derived.Test.YtlbkhjmenglefaaRcSm
import Derived.Test.YtlbkhjmenglefaaRcEq
namespace Go.Proofs.Ytlbkhjmenglefaa.W
open Go.ChangeShapes Go.WideShapes Go.ChangeAt Go.RowKit
open Go.Proofs.Ytlbkhjmenglefaa.M

set_option maxHeartbeats 2000000 in
set_option maxRecDepth 100000 in
theorem law_SameRecords (va vb : Value) (cs ds : List Rcd) (w : World) (ha : RdD w va cs) (hb : RdD w vb ds) :
    Calls Try.prog 3 #[va, vb] w fun e w' => e = .returned (.bool true) ∧ Below w.heap.size w w' := by
  have Ha := hid ha
  obtain ⟨pa, ca, rfl, -, -, -⟩ := ha.parts
  have Hb := hid hb
  obtain ⟨pb, cb, rfl, -, -, -⟩ := hb.parts
  have BB := hid (Below.refl w.heap.size w)
  clear ha hb
  go_enter Try.func3, Try.ntmps3
  go_wp2_with fail
  refine (szDS _ cs 1048576 _ Ha.out (by omega) (by omega)).mono ?_
  rintro e w1 ⟨rfl, hB⟩
  replace Ha := hid (Ha.out.below hB)
  replace Hb := hid (Hb.out.below hB)
  replace BB := hid (BB.out.trans (hB.mono BB.out.size))
  clear hB
  by_cases hz : (1048576 : Int) < cs.length
  · rw [show szD 1048576 cs.length = -1 by rw [szD, if_pos hz]]
    go_wp2
    go_ret
    exact ⟨rfl, BB.out⟩
  obtain ⟨l0, e1⟩ : ∃ r, r = szD 1048576 cs.length := ⟨_, rfl⟩
  have e1' : szD 1048576 cs.length = 1048576 - cs.length := by rw [szD, if_neg hz]
  have g0 : 0 ≤ l0 := by rw [e1, e1']; omega
  have f0 : l0 ≤ 1048576 := by rw [e1, e1']; omega
  have ka : cs.length ≤ 1048576 := by omega
  rw [← e1]
  clear e1 e1' hz
  go_wp2_with fail
  refine (szDS _ ds l0 _ Hb.out g0 f0).mono ?_
  rintro e w2 ⟨rfl, hB⟩
  replace Ha := hid (Ha.out.below hB)
  replace Hb := hid (Hb.out.below hB)
  replace BB := hid (BB.out.trans (hB.mono BB.out.size))
  clear hB
  by_cases hz : l0 < ds.length
  · rw [show szD l0 ds.length = -1 by rw [szD, if_pos hz]]
    go_wp2
    go_ret
    exact ⟨rfl, BB.out⟩
  obtain ⟨l1, e1⟩ : ∃ r, r = szD l0 ds.length := ⟨_, rfl⟩
  have e1' : szD l0 ds.length = l0 - ds.length := by rw [szD, if_neg hz]
  have g1 : 0 ≤ l1 := by rw [e1, e1']; omega
  have f1 : l1 ≤ 1048576 := by rw [e1, e1']; omega
  have kb : ds.length ≤ 1048576 := by omega
  rw [← e1]
  clear e1 e1' hz
  go_wp2_with fail
  refine (toDS _ cs _ Ha.out ka).mono ?_
  rintro e w3 ⟨gTa, rfl, hO, hB⟩
  replace Ha := hid (Ha.out.below hB)
  replace Hb := hid (Hb.out.below hB)
  replace BB := hid (BB.out.trans (hB.mono BB.out.size))
  clear hB
  have Ta := hid hO.rd
  clear hO
  go_wp2_with fail
  refine (toDS _ ds _ Hb.out kb).mono ?_
  rintro e w4 ⟨gTb, rfl, hO, hB⟩
  replace Ha := hid (Ha.out.below hB)
  replace Hb := hid (Hb.out.below hB)
  replace Ta := hid (Ta.out.below hB)
  replace BB := hid (BB.out.trans (hB.mono BB.out.size))
  clear hB
  have Tb := hid hO.rd
  clear hO
  go_wp2_with fail
  refine (s10e _ _ cs ds _ Ta.out Tb.out).mono ?_
  rintro e w5 ⟨rfl, hB⟩
  replace Ha := hid (Ha.out.below hB)
  replace Hb := hid (Hb.out.below hB)
  replace Ta := hid (Ta.out.below hB)
  replace Tb := hid (Tb.out.below hB)
  replace BB := hid (BB.out.trans (hB.mono BB.out.size))
  clear hB
  clear Ta Tb
  obtain ⟨t, ht⟩ : ∃ t, t = srA cs ds := ⟨_, rfl⟩
  rw [← ht]
  replace ht := hid ht
  go_wp2_with fail
  refine (toDS _ cs _ Ha.out ka).mono ?_
  rintro e w6 ⟨gXa, rfl, hO, hB⟩
  replace Ha := hid (Ha.out.below hB)
  replace Hb := hid (Hb.out.below hB)
  replace BB := hid (BB.out.trans (hB.mono BB.out.size))
  clear hB
  have Xa := hid hO.rd
  clear hO
  go_wp2_with fail
  refine (toDS _ ds _ Hb.out kb).mono ?_
  rintro e w7 ⟨gXb, rfl, hO, hB⟩
  replace Ha := hid (Ha.out.below hB)
  replace Hb := hid (Hb.out.below hB)
  replace Xa := hid (Xa.out.below hB)
  replace BB := hid (BB.out.trans (hB.mono BB.out.size))
  clear hB
  have Xb := hid hO.rd
  clear hO
  go_wp2_with fail
  refine (i10e _ _ cs ds _ Xa.out Xb.out).mono ?_
  rintro e w8 ⟨rfl, hB⟩
  replace Ha := hid (Ha.out.below hB)
  replace Hb := hid (Hb.out.below hB)
  replace Xa := hid (Xa.out.below hB)
  replace Xb := hid (Xb.out.below hB)
  replace BB := hid (BB.out.trans (hB.mono BB.out.size))
  clear hB
  rw [← ht.out]
  go_wp2_with fail
  refine (toDS _ cs _ Ha.out ka).mono ?_
  rintro e w9 ⟨gYa, rfl, hO, hB⟩
  replace Ha := hid (Ha.out.below hB)
  replace Hb := hid (Hb.out.below hB)
  replace Xa := hid (Xa.out.below hB)
  replace Xb := hid (Xb.out.below hB)
  replace BB := hid (BB.out.trans (hB.mono BB.out.size))
  clear hB
  have Y := hid hO.rd
  clear hO
  go_wp2_with fail
  refine (eqDS _ _ cs _ Xa.out Y.out ka).mono ?_
  rintro e w10 ⟨rfl, hB⟩
  replace Ha := hid (Ha.out.below hB)
  replace Hb := hid (Hb.out.below hB)
  replace Xa := hid (Xa.out.below hB)
  replace Xb := hid (Xb.out.below hB)
  replace Y := hid (Y.out.below hB)
  replace BB := hid (BB.out.trans (hB.mono BB.out.size))
  clear hB
  clear Y
  go_wp2_with fail
  refine (toDS _ ds _ Hb.out kb).mono ?_
  rintro e w11 ⟨gYb, rfl, hO, hB⟩
  replace Ha := hid (Ha.out.below hB)
  replace Hb := hid (Hb.out.below hB)
  replace Xa := hid (Xa.out.below hB)
  replace Xb := hid (Xb.out.below hB)
  replace BB := hid (BB.out.trans (hB.mono BB.out.size))
  clear hB
  have Y := hid hO.rd
  clear hO
  go_wp2_with fail
  refine (eqDS _ _ ds _ Xb.out Y.out kb).mono ?_
  rintro e w12 ⟨rfl, hB⟩
  replace Ha := hid (Ha.out.below hB)
  replace Hb := hid (Hb.out.below hB)
  replace Xa := hid (Xa.out.below hB)
  replace Xb := hid (Xb.out.below hB)
  replace Y := hid (Y.out.below hB)
  replace BB := hid (BB.out.trans (hB.mono BB.out.size))
  clear hB
  clear Y
  go_wp2
  go_ret
  exact ⟨rfl, BB.out⟩
end Go.Proofs.Ytlbkhjmenglefaa.W
