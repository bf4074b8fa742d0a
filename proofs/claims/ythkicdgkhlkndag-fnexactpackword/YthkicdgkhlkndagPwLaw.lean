/-
  The exact law of PackWord, out of the contracts of its callees.
-/
import Derived.Test.YthkicdgkhlkndagIpwWalks
namespace Go.Proofs.Ythkicdgkhlkndag.W
open Go.ChangeShapes Go.WideShapes Go.ChangeAt Go.RowKit
open Go.Proofs.Ythkicdgkhlkndag.M

set_option maxRecDepth 100000 in
theorem law_pw (n s c : Int) (l : List Nat) (w : World) (hl : l.length ≤ 8)
    (SP : Hid (∀ w : World, Calls Try.prog 15 #[.int .i64 n, .int .i64 s] w fun e w' => ∃ v, e = .returned (.agg #[.int .i64 c, v]) ∧ Own w' w.heap.size v l ∧ Below w.heap.size w w'))
    (IP : Hid (∀ w : World, Calls Try.prog 16 #[.int .i64 n, .int .i64 s] w fun e w' => ∃ v, e = .returned (.agg #[.int .i64 c, v]) ∧ Own w' w.heap.size v l ∧ Below w.heap.size w w')) :
    Calls Try.prog 4 #[.int .i64 n, .int .i64 s] w fun e w' => e = .returned (.bool true) ∧ Below w.heap.size w w' := by
  go_enter Try.func4, Try.ntmps4
  go_wp2_with fail
  refine (SP.out _).mono ?_
  rintro e w1 ⟨v1, rfl, hO1, hB1⟩
  obtain ⟨p1, k1, rfl, -, -, -⟩ := hO1.rd.parts
  have hX1 := heap_alloc_new w1 (.cells #[.int .i64 c, .slice p1 l.length k1] 24)
  go_wp2_with fail
  refine (IP.out _).mono ?_
  rintro e w2 ⟨v2, rfl, hO2, hB2⟩
  obtain ⟨p2, k2, rfl, -, -, -⟩ := hO2.rd.parts
  have hV1 := var_below hB2 hX1
  have hR1 := (hO1.below (below_alloc1 w1 _)).below hB2
  have hX2 := heap_alloc_new w2 (.cells #[.int .i64 c, .slice p2 l.length k2] 24)
  obtain ⟨f1, f2, -, -⟩ := var2_facts hV1
  have hs1 := var_lt hV1
  clear hX1
  go_wp2_with fail
  -- the first comparison
  refine (eqBR c _ _ l _ (hO2.below (below_alloc1 w2 _)).rd (hR1.below (below_alloc1 w2 _)).rd (by omega)).mono ?_
  rintro e w3 ⟨rfl, hB3⟩
  have hB23 := (below_alloc1 w2 _).trans (hB3.mono (by simp))
  have hV1 := var_below hB23 hV1
  have hV2 := var_below hB3 hX2
  have hR1 := hR1.below hB23
  have hOw2 := hO2
  have hO2 := hO2.below hB23
  clear f1 f2 hX2
  obtain ⟨f1, f2, -, -⟩ := var2_facts hV1
  obtain ⟨f3, f4, -, -⟩ := var2_facts hV2
  have hne1 := hO2.ne (g := w1.heap.size) (by simp)
  have hne2 : some w2.heap.size ≠ (Value.slice p2 l.length k2).ownBlock := fun e => by
    have := World.ownsRow.lt hOw2 _ e.symm
    omega
  have hap := hO1.apart hO2 (by simp)
  go_wp2_with fail
  -- the marks
  refine (markBR1 c _ l _ _ hO2 (by omega)).mono ?_
  rintro e w4 ⟨rfl, hM, hG⟩
  have hB34 := below_of_grown (B := w.heap.size) hG (by have := hB1.size; have := hB23.size; omega) (hO2.row (by have := hB1.size; simp; omega))
  have hV1 := var_grown hG hV1 hne1
  have hV2 := var_grown hG hV2 hne2
  have hR1 := hR1.kept hG hap
  have hs2 := var_lt hV2
  clear f1 f2 f3 f4 hO2 hG hne1 hne2
  obtain ⟨f1, f2, -, -⟩ := var2_facts hV1
  obtain ⟨f3, f4, -, -⟩ := var2_facts hV2
  go_wp2_with fail
  refine (heldBR1 c _ l.length _ hM.rd (by omega)).mono ?_
  rintro e w5 ⟨rfl, hB5⟩
  have hV1 := var_below hB5 hV1
  have hV2 := var_below hB5 hV2
  have hR1 := hR1.below hB5
  have hM := hM.below hB5
  clear f1 f2 f3 f4
  obtain ⟨f1, f2, -, -⟩ := var2_facts hV1
  obtain ⟨f3, f4, -, -⟩ := var2_facts hV2
  go_wp2_with fail
  -- the second call
  refine (IP.out _).mono ?_
  rintro e w6 ⟨v6, rfl, hO6, hB6⟩
  obtain ⟨p6, k6, rfl, -, -, -⟩ := hO6.rd.parts
  have hV1 := var_below hB6 hV1
  have hV2 := var_below hB6 hV2
  have hR1 := hR1.below hB6
  have hM := hM.below hB6
  have hs1 := var_lt hV1
  have hs2 := var_lt hV2
  clear f1 f2 f3 f4
  obtain ⟨f1, f2, -, -⟩ := var2_facts hV1
  obtain ⟨f3, f4, -, -⟩ := var2_facts hV2
  go_wp2_with fail
  refine (eqBR c _ _ l _ (hO6.below (below_alloc1 w6 _)).rd (hR1.below (below_alloc1 w6 _)).rd (by omega)).mono ?_
  rintro e w7 ⟨rfl, hB7⟩
  have hB67 := (below_alloc1 w6 _).trans (hB7.mono (by simp))
  have hV2 := var_below hB67 hV2
  have hM := hM.below hB67
  clear f1 f2 f3 f4 hV1 hR1
  obtain ⟨f3, f4, -, -⟩ := var2_facts hV2
  go_wp2_with fail
  refine (heldBR1 c _ l.length _ hM.rd (by omega)).mono ?_
  rintro e w8 ⟨rfl, hB8⟩
  go_wp2
  go_ret
  have z1 := hB1.size
  have z2 := hB23.size
  have z3 := hB34.size
  have z5 := hB5.size
  have z6 := hB6.size
  have z7 := hB67.size
  exact ⟨rfl, hB1.trans (((below_alloc1 w1 _).mono z1).trans ((hB2.mono (by simp; omega)).trans ((hB23.mono (by omega)).trans (hB34.trans ((hB5.mono (by omega)).trans ((hB6.mono (by omega)).trans ((hB67.mono (by omega)).trans (hB8.mono (by omega)))))))))⟩
end Go.Proofs.Ythkicdgkhlkndag.W
