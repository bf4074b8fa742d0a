/-
  The exact law of RoundConstant, out of the contracts of its callees.
-/
import Derived.Test.YtaopocjagikacagRconWalks
import Derived.Test.YtaopocjagikacagEqIr
namespace Go.Proofs.Ytaopocjagikacag.W
open Go.ChangeShapes Go.WideShapes Go.ChangeAt Go.RowKit
open Go.Proofs.Ytaopocjagikacag.M

set_option maxRecDepth 100000 in
theorem law_RoundConstant (i : Int) (w : World) :
    Calls Try.prog 7 #[.int .i64 i] w fun e w' => e = .returned (.bool true) ∧ Below w.heap.size w w' := by
  go_enter Try.func7, Try.ntmps7
  go_wp2_with fail
  refine (srcon i _).mono ?_
  rintro e w1 ⟨rfl, hB1⟩
  have IP := hid (ircon i)
  generalize rcC i = c at *
  generalize rcV i = x at *
  go_wp2_with fail
  refine (IP.out _).mono ?_
  rintro e w2 ⟨rfl, hB2⟩
  have V1 := var_below hB2 (heap_alloc_new w1 (.cells #[.int .i64 c, .int .i64 x] 34))
  have hB3 := (below_alloc1 w1 (.cells #[.int .i64 c, .int .i64 x] 34)).trans (hB2.mono (by simp))
  have hBel := hB1.trans (hB3.mono (by have := hB1.size; omega))
  obtain ⟨f1, f2, -, -⟩ := var2_facts V1
  have s1 := var_lt V1
  clear hB1 hB2 hB3 V1 IP
  go_wp2_with fail
  refine (eqIR c x _).mono ?_
  rintro e w3 ⟨rfl, hB3⟩
  have hB4 := (below_alloc1 w2 (.cells #[.int .i64 c, .int .i64 x] 34)).trans (hB3.mono (by simp))
  have hBel := hBel.trans (hB4.mono (by have := hBel.size; omega))
  go_wp2
  go_ret
  exact ⟨rfl, hBel⟩
end Go.Proofs.Ytaopocjagikacag.W
