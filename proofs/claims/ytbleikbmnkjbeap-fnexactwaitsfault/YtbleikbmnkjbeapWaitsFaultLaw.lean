/-
  The exact law of WaitsFault, out of the contracts of its callees. Generated text.
-/
import Derived.Test.YtbleikbmnkjbeapWtVi
import Derived.Test.YtbleikbmnkjbeapWtK
namespace Go.Proofs.Ytbleikbmnkjbeap.W
open Go.ChangeShapes Go.WideShapes Go.ChangeAt Go.RowKit
open Go.Proofs.Ytbleikbmnkjbeap.M

set_option maxHeartbeats 2000000 in
set_option maxRecDepth 100000 in
theorem law_WaitsFault (va : Value) (cs : List Wai) (w : World) (ha : RdJ w va cs) :
    Calls Try.prog 3 #[va] w fun e w' => e = .returned (.bool true) ∧ Below w.heap.size w w' := by
  have Ha := hid ha
  obtain ⟨pa, ca, rfl, -, -, -⟩ := ha.parts
  have BB := hid (Below.refl w.heap.size w)
  clear ha
  go_enter Try.func3, Try.ntmps3
  go_wp2_with fail
  refine (szJS _ cs 1048576 _ Ha.out (by omega) (by omega)).mono ?_
  rintro e w1 ⟨rfl, hB⟩
  replace Ha := hid (Ha.out.below hB)
  replace BB := hid (BB.out.trans (hB.mono BB.out.size))
  clear hB
  by_cases hz : (1048576 : Int) < cs.length
  · rw [show szJ 1048576 cs.length = -1 by rw [szJ, if_pos hz]]
    go_wp2
    go_ret
    exact ⟨rfl, BB.out⟩
  obtain ⟨l0, e1⟩ : ∃ r, r = szJ 1048576 cs.length := ⟨_, rfl⟩
  have e1' : szJ 1048576 cs.length = 1048576 - cs.length := by rw [szJ, if_neg hz]
  have g0 : 0 ≤ l0 := by rw [e1, e1']; omega
  have f0 : l0 ≤ 1048576 := by rw [e1, e1']; omega
  have ka : cs.length ≤ 1048576 := by omega
  rw [← e1]
  clear e1 e1' hz
  go_wp2_with fail
  refine (toJS _ cs _ Ha.out ka).mono ?_
  rintro e w2 ⟨gTa, rfl, hO, hB⟩
  replace Ha := hid (Ha.out.below hB)
  replace BB := hid (BB.out.trans (hB.mono BB.out.size))
  clear hB
  have Ta := hid hO.rd
  clear hO
  go_wp2_with fail
  refine (s9f _ cs _ Ta.out).mono ?_
  rintro e w3 ⟨rfl, hB⟩
  replace Ha := hid (Ha.out.below hB)
  replace Ta := hid (Ta.out.below hB)
  replace BB := hid (BB.out.trans (hB.mono BB.out.size))
  clear hB
  clear Ta
  obtain ⟨t, ht⟩ : ∃ t, t = wtF cs := ⟨_, rfl⟩
  rw [← ht]
  replace ht := hid ht
  go_wp2_with fail
  refine (toJS _ cs _ Ha.out ka).mono ?_
  rintro e w4 ⟨gXa, rfl, hO, hB⟩
  replace Ha := hid (Ha.out.below hB)
  replace BB := hid (BB.out.trans (hB.mono BB.out.size))
  clear hB
  have Xa := hid hO.rd
  clear hO
  go_wp2_with fail
  refine (i9f _ cs _ Xa.out).mono ?_
  rintro e w5 ⟨rfl, hB⟩
  replace Ha := hid (Ha.out.below hB)
  replace Xa := hid (Xa.out.below hB)
  replace BB := hid (BB.out.trans (hB.mono BB.out.size))
  clear hB
  rw [← ht.out]
  go_wp2_with fail
  refine (toJS _ cs _ Ha.out ka).mono ?_
  rintro e w6 ⟨gYa, rfl, hO, hB⟩
  replace Ha := hid (Ha.out.below hB)
  replace Xa := hid (Xa.out.below hB)
  replace BB := hid (BB.out.trans (hB.mono BB.out.size))
  clear hB
  have Y := hid hO.rd
  clear hO
  go_wp2_with fail
  refine (eqJS _ _ cs _ Xa.out Y.out ka).mono ?_
  rintro e w7 ⟨rfl, hB⟩
  replace Ha := hid (Ha.out.below hB)
  replace Xa := hid (Xa.out.below hB)
  replace Y := hid (Y.out.below hB)
  replace BB := hid (BB.out.trans (hB.mono BB.out.size))
  clear hB
  clear Y
  go_wp2
  go_ret
  exact ⟨rfl, BB.out⟩
end Go.Proofs.Ytbleikbmnkjbeap.W
