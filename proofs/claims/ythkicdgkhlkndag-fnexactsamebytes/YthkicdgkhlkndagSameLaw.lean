/-
  The exact law of SameBytes, out of the contracts of its callees.
-/
import Derived.Test.YthkicdgkhlkndagSameWalks
namespace Go.Proofs.Ythkicdgkhlkndag.W
open Go.ChangeShapes Go.WideShapes Go.ChangeAt Go.RowKit
open Go.Proofs.Ythkicdgkhlkndag.M

set_option maxRecDepth 100000 in
theorem law_same (va vb : Value) (la lb : List Nat) (w : World) (ha : Rd w va la) (hb : Rd w vb lb) :
    Calls Try.prog 6 #[va, vb] w fun e w' => e = .returned (.bool true) ∧ Below w.heap.size w w' := by
  obtain ⟨a, capa, rfl, _, _, _⟩ := ha.parts
  obtain ⟨b, capb, rfl, _, _, _⟩ := hb.parts
  by_cases l1 : la.length ≤ 1048576
  · by_cases l2 : lb.length ≤ 1048576
    · go_enter Try.func6, Try.ntmps6
      go_wp2_with fail
      refine (toB _ la _ ha l1).mono ?_
      rintro e w1 ⟨rfl, hO1, hB1⟩
      have ha := ha.below hB1
      have hb := hb.below hB1
      go_wp2_with fail
      refine (toB _ lb _ hb l2).mono ?_
      rintro e w2 ⟨rfl, hO2, hB2⟩
      have ha := ha.below hB2
      have hb := hb.below hB2
      go_wp2_with fail
      refine (sameb _ _ la lb _ (hO1.below hB2).rd hO2.rd).mono ?_
      rintro e w' ⟨rfl, rfl⟩
      clear hO1 hO2
      go_wp2_with fail
      refine (toB _ la _ ha l1).mono ?_
      rintro e w3 ⟨rfl, hO1, hB3⟩
      have ha := ha.below hB3
      have hb := hb.below hB3
      go_wp2_with fail
      refine (toB _ lb _ hb l2).mono ?_
      rintro e w4 ⟨rfl, hO2, hB4⟩
      have ha := ha.below hB4
      have hb := hb.below hB4
      have hO1 := hO1.below hB4
      go_wp2_with fail
      refine (samei _ _ la lb _ hO1.rd hO2.rd).mono ?_
      rintro e w' ⟨rfl, rfl⟩
      go_wp2_with fail
      refine (toB _ la _ ha l1).mono ?_
      rintro e w5 ⟨rfl, hO5, hB5⟩
      have hb := hb.below hB5
      have hO1 := hO1.below hB5
      have hO2 := hO2.below hB5
      go_wp2_with fail
      refine (eqB _ _ la _ hO1.rd hO5.rd l1).mono ?_
      rintro e w6 ⟨rfl, hB6⟩
      have hb := hb.below hB6
      have hO2 := hO2.below hB6
      clear hO5
      go_wp2_with fail
      refine (toB _ lb _ hb l2).mono ?_
      rintro e w7 ⟨rfl, hO7, hB7⟩
      have hO2 := hO2.below hB7
      go_wp2_with fail
      refine (eqB _ _ lb _ hO2.rd hO7.rd l2).mono ?_
      rintro e w8 ⟨rfl, hB8⟩
      go_wp2
      go_ret
      have z1 := hB1.size
      have z2 := hB2.size
      have z3 := hB3.size
      have z4 := hB4.size
      have z5 := hB5.size
      have z6 := hB6.size
      have z7 := hB7.size
      exact ⟨rfl, hB1.trans ((hB2.mono (by omega)).trans ((hB3.mono (by omega)).trans ((hB4.mono (by omega)).trans ((hB5.mono (by omega)).trans ((hB6.mono (by omega)).trans ((hB7.mono (by omega)).trans (hB8.mono (by omega))))))))⟩
    · go_enter Try.func6, Try.ntmps6
      go_wp2
      go_ret
      exact ⟨rfl, Below.refl _ _⟩
  · go_enter Try.func6, Try.ntmps6
    go_wp2
    go_ret
    exact ⟨rfl, Below.refl _ _⟩
end Go.Proofs.Ythkicdgkhlkndag.W
