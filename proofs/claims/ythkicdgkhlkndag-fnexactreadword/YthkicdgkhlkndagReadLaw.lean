/-
  The exact law of ReadWord, out of the contracts of its callees.
-/
import Derived.Test.YthkicdgkhlkndagIrwWalks
namespace Go.Proofs.Ythkicdgkhlkndag.W
open Go.ChangeShapes Go.WideShapes Go.ChangeAt Go.RowKit
open Go.Proofs.Ythkicdgkhlkndag.M

set_option maxRecDepth 100000 in
theorem eqIR (c v : Int) (w : World) :
    Calls Try.prog 19 #[.agg #[.int .i64 c, .int .i64 v], .agg #[.int .i64 c, .int .i64 v]] w fun e w' => e = .returned (.bool true) ∧ Below w.heap.size w w' := by
  go_enter Try.func19, Try.ntmps19
  go_wp2
  go_ret
  exact ⟨rfl, below_alloc2 w _ _⟩

set_option maxRecDepth 100000 in
theorem law_ReadWord (va : Value) (l : List Nat) (a s c x : Int) (w : World) (ha : Rd w va l)
    (SP : Hid (l.length ≤ 1048576 → ∀ (w : World) (v : Value), Rd w v l → Calls Try.prog 17 #[v, .int .i64 a, .int .i64 s] w fun e w' => e = .returned (.agg #[.int .i64 c, .int .i64 x]) ∧ Below w.heap.size w w'))
    (IP : Hid (l.length ≤ 1048576 → ∀ (w : World) (v : Value), Rd w v l → Calls Try.prog 18 #[v, .int .i64 a, .int .i64 s] w fun e w' => e = .returned (.agg #[.int .i64 c, .int .i64 x]) ∧ Below w.heap.size w w')) :
    Calls Try.prog 5 #[va, .int .i64 a, .int .i64 s] w fun e w' => e = .returned (.bool true) ∧ Below w.heap.size w w' := by
  obtain ⟨p, cap, rfl, _, _, _⟩ := ha.parts
  by_cases l1 : l.length ≤ 1048576
  · have Z := hid ha
    clear ha
    go_enter Try.func5, Try.ntmps5
    go_wp2_with fail
    refine (toB _ l _ Z.out l1).mono ?_
    rintro e w1 ⟨rfl, hO1, hB1⟩
    go_wp2_with fail
    refine (SP.out l1 _ _ hO1.rd).mono ?_
    rintro e w2 ⟨rfl, hB2⟩
    have hBel := hB1.trans (hB2.mono (by have := hB1.size; omega))
    clear hO1
    go_wp2_with fail
    refine (toB _ l _ ((Z.out.below hBel).below (below_alloc1 w2 _)) l1).mono ?_
    rintro e w3 ⟨rfl, hO3, hB3⟩
    simp only [World.size_alloc] at hO3
    have V1 := var_below hB3 (heap_alloc_new w2 (.cells #[.int .i64 c, .int .i64 x] 34))
    have hB3 := (below_alloc1 w2 _).trans (hB3.mono (by simp))
    have hBel := hBel.trans (hB3.mono (by have := hBel.size; omega))
    have s1 := var_lt V1
    clear hB1 hB2 hB3
    go_wp2_with fail
    refine (IP.out l1 _ _ hO3.rd).mono ?_
    rintro e w4 ⟨rfl, hB4⟩
    have V1 := var_below hB4 V1
    have hO3 := hO3.below hB4
    have hBel := hBel.trans (hB4.mono (by have := hBel.size; omega))
    have s1 := var_lt V1
    obtain ⟨f1, f2, -, -⟩ := var2_facts V1
    clear hB4
    go_wp2_with fail
    refine (eqIR c x _).mono ?_
    rintro e w5 ⟨rfl, hB5⟩
    have hB5 := (below_alloc1 w4 _).trans (hB5.mono (by simp))
    have hO3 := hO3.below hB5
    have hBel := hBel.trans (hB5.mono (by have := hBel.size; omega))
    clear hB5 f1 f2 V1
    go_wp2_with fail
    refine (toB _ l _ (Z.out.below hBel) l1).mono ?_
    rintro e w6 ⟨rfl, hO6, hB6⟩
    have hO3 := hO3.below hB6
    have hBel := hBel.trans (hB6.mono (by have := hBel.size; omega))
    go_wp2_with fail
    refine (eqB _ _ l _ hO3.rd hO6.rd l1).mono ?_
    rintro e w7 ⟨rfl, hB7⟩
    have hBel := hBel.trans (hB7.mono (by have := hBel.size; omega))
    clear hB6 hB7 hO3 hO6
    go_wp2
    go_ret
    exact ⟨rfl, hBel⟩
  · go_enter Try.func5, Try.ntmps5
    go_wp2
    go_ret
    exact ⟨rfl, Below.refl _ _⟩
end Go.Proofs.Ythkicdgkhlkndag.W
