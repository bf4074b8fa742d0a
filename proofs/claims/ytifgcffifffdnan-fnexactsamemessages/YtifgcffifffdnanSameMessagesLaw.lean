/-
  The exact law of SameMessages, out of the contracts of its callees. Generated text.
-/
import Derived.Test.YtifgcffifffdnanSqS
import Derived.Test.YtifgcffifffdnanMlO
namespace Go.Proofs.Ytifgcffifffdnan.W
open Go.ChangeShapes Go.WideShapes Go.ChangeAt Go.RowKit
open Go.Proofs.Ytifgcffifffdnan.M

set_option maxHeartbeats 2000000 in
set_option maxRecDepth 100000 in
theorem law_SameMessages (va vb : Value) (ks ms : List Msg) (w : World) (ha : RdM w va ks) (hb : RdM w vb ms) :
    Calls Try.prog 4 #[va, vb] w fun e w' => e = .returned (.bool true) ∧ Below w.heap.size w w' := by
  have HA := hid ha
  have HB := hid hb
  have BB := hid (Below.refl w.heap.size w)
  obtain ⟨a, ca, rfl, -, -, -⟩ := ha.parts
  obtain ⟨b, cb, rfl, -, -, -⟩ := hb.parts
  clear ha hb
  go_enter Try.func4, Try.ntmps4
  go_wp2_with fail
  refine (szMS _ ks 1048576 _ HA.out (by omega) (by omega)).mono ?_
  rintro e w1 ⟨rfl, hB⟩
  replace HA := hid (HA.out.below hB)
  replace HB := hid (HB.out.below hB)
  replace BB := hid (BB.out.trans (hB.mono BB.out.size))
  clear hB
  by_cases ha : (1048576 : Int) < ks.length + totM ks
  · rw [show szQ 1048576 ks = -1 by rw [szQ, if_pos ha]]
    go_wp2
    go_ret
    exact ⟨rfl, BB.out⟩
  obtain ⟨la, e1⟩ : ∃ r, r = szQ 1048576 ks := ⟨_, rfl⟩
  have e1' : szQ 1048576 ks = 1048576 - (ks.length + totM ks) := by rw [szQ, if_neg ha]
  have ga : 0 ≤ la := by rw [e1, e1']; omega
  have fa : la ≤ 1048576 := by rw [e1, e1']; omega
  have ka : ks.length + totM ks ≤ 1048576 := by omega
  rw [← e1]
  clear e1 e1' ha
  go_wp2_with fail
  refine (szMS _ ms la _ HB.out ga fa).mono ?_
  rintro e w2 ⟨rfl, hB⟩
  replace HA := hid (HA.out.below hB)
  replace HB := hid (HB.out.below hB)
  replace BB := hid (BB.out.trans (hB.mono BB.out.size))
  clear hB
  by_cases hb : la < ms.length + totM ms
  · rw [show szQ la ms = -1 by rw [szQ, if_pos hb]]
    go_wp2
    go_ret
    exact ⟨rfl, BB.out⟩
  obtain ⟨lb, e1⟩ : ∃ r, r = szQ la ms := ⟨_, rfl⟩
  have e1' : szQ la ms = la - (ms.length + totM ms) := by rw [szQ, if_neg hb]
  have gb : 0 ≤ lb := by rw [e1, e1']; omega
  have fb : lb ≤ 1048576 := by rw [e1, e1']; omega
  have kb : ms.length + totM ms ≤ 1048576 := by omega
  rw [← e1]
  clear e1 e1' hb
  go_wp2_with fail
  refine (toMS _ ks _ HA.out ka).mono ?_
  rintro e w3 ⟨gTA, rfl, hO, hB⟩
  replace HA := hid (HA.out.below hB)
  replace HB := hid (HB.out.below hB)
  replace BB := hid (BB.out.trans (hB.mono BB.out.size))
  clear hB
  have TA := hid hO.rd
  clear hO
  go_wp2_with fail
  refine (toMS _ ms _ HB.out kb).mono ?_
  rintro e w4 ⟨gTB, rfl, hO, hB⟩
  replace HA := hid (HA.out.below hB)
  replace HB := hid (HB.out.below hB)
  replace TA := hid (TA.out.below hB)
  replace BB := hid (BB.out.trans (hB.mono BB.out.size))
  clear hB
  have TB := hid hO.rd
  clear hO
  go_wp2_with fail
  refine (ssq _ _ ks ms _ TA.out TB.out (by omega)).mono ?_
  rintro e w5 ⟨rfl, hB⟩
  replace HA := hid (HA.out.below hB)
  replace HB := hid (HB.out.below hB)
  replace TA := hid (TA.out.below hB)
  replace TB := hid (TB.out.below hB)
  replace BB := hid (BB.out.trans (hB.mono BB.out.size))
  clear hB
  clear TA TB
  obtain ⟨t, ht⟩ : ∃ t, t = smA ks ms := ⟨_, rfl⟩
  rw [← ht]
  replace ht := hid ht
  go_wp2_with fail
  refine (toMS _ ks _ HA.out ka).mono ?_
  rintro e w6 ⟨gXA, rfl, hO, hB⟩
  replace HA := hid (HA.out.below hB)
  replace HB := hid (HB.out.below hB)
  replace BB := hid (BB.out.trans (hB.mono BB.out.size))
  clear hB
  have XA := hid hO.rd
  clear hO
  go_wp2_with fail
  refine (toMS _ ms _ HB.out kb).mono ?_
  rintro e w7 ⟨gXB, rfl, hO, hB⟩
  replace HA := hid (HA.out.below hB)
  replace HB := hid (HB.out.below hB)
  replace XA := hid (XA.out.below hB)
  replace BB := hid (BB.out.trans (hB.mono BB.out.size))
  clear hB
  have XB := hid hO.rd
  clear hO
  go_wp2_with fail
  refine (isq _ _ ks ms _ XA.out XB.out (by omega)).mono ?_
  rintro e w8 ⟨rfl, hB⟩
  replace HA := hid (HA.out.below hB)
  replace HB := hid (HB.out.below hB)
  replace XA := hid (XA.out.below hB)
  replace XB := hid (XB.out.below hB)
  replace BB := hid (BB.out.trans (hB.mono BB.out.size))
  clear hB
  rw [← ht.out]
  go_wp2_with fail
  refine (toMS _ ks _ HA.out ka).mono ?_
  rintro e w9 ⟨gYA, rfl, hO, hB⟩
  replace HA := hid (HA.out.below hB)
  replace HB := hid (HB.out.below hB)
  replace XA := hid (XA.out.below hB)
  replace XB := hid (XB.out.below hB)
  replace BB := hid (BB.out.trans (hB.mono BB.out.size))
  clear hB
  have YA := hid hO.rd
  clear hO
  go_wp2_with fail
  refine (eqMS _ _ ks _ XA.out YA.out ka).mono ?_
  rintro e w10 ⟨rfl, hB⟩
  replace HA := hid (HA.out.below hB)
  replace HB := hid (HB.out.below hB)
  replace XA := hid (XA.out.below hB)
  replace XB := hid (XB.out.below hB)
  replace YA := hid (YA.out.below hB)
  replace BB := hid (BB.out.trans (hB.mono BB.out.size))
  clear hB
  clear YA
  go_wp2_with fail
  refine (toMS _ ms _ HB.out kb).mono ?_
  rintro e w11 ⟨gYB, rfl, hO, hB⟩
  replace HA := hid (HA.out.below hB)
  replace HB := hid (HB.out.below hB)
  replace XA := hid (XA.out.below hB)
  replace XB := hid (XB.out.below hB)
  replace BB := hid (BB.out.trans (hB.mono BB.out.size))
  clear hB
  have YB := hid hO.rd
  clear hO
  go_wp2_with fail
  refine (eqMS _ _ ms _ XB.out YB.out kb).mono ?_
  rintro e w12 ⟨rfl, hB⟩
  replace HA := hid (HA.out.below hB)
  replace HB := hid (HB.out.below hB)
  replace XA := hid (XA.out.below hB)
  replace XB := hid (XB.out.below hB)
  replace YB := hid (YB.out.below hB)
  replace BB := hid (BB.out.trans (hB.mono BB.out.size))
  clear hB
  go_wp2
  go_ret
  exact ⟨rfl, BB.out⟩
end Go.Proofs.Ytifgcffifffdnan.W
