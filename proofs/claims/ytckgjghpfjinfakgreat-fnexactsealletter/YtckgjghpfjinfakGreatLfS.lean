/-
  The fault of a letter: what LetterFault of the model answers.
-/
import Derived.Test.YtckgjghpfjinfakGreatLetF
import Derived.Test.YtckgjghpfjinfakGreatL5hW
namespace Go.Proofs.YtckgjghpfjinfakGreat.W
open Go.ChangeShapes Go.WideShapes Go.ChangeAt Go.RowKit
open Go.Proofs.YtckgjghpfjinfakGreat.M

theorem ret_n {a b : Int} (h : a = b) : Ending.returned (.int .i64 a) = .returned (.int .i64 b) := by rw [h]
set_option maxRecDepth 100000 in
theorem slf (k s c : Int) (a : Option Addr) (n cap : Nat) (w : World) (hn : n ≤ maxLen) :
    Calls Tryz.prog 20 #[.agg #[.int .i64 k, .int .i64 s, .int .i64 c, .slice a n cap]] w fun e w' => e = .returned (.int .i64 (lF k s c n)) ∧ Below w.heap.size w w' := by
  unfold maxLen at hn
  have V := hid (heap_alloc_new w (.cells #[.int .i64 k, .int .i64 s, .int .i64 c, .slice a n cap] 37))
  have BB := hid (below_alloc1 w (.cells #[.int .i64 k, .int .i64 s, .int .i64 c, .slice a n cap] 37))
  go_enter Tryz.func20, Tryz.ntmps20
  go_wp2_with fail
  refine (l5head _ _ _ _ _ _ V.out).mono ?_
  rintro e w1 ⟨b, rfl, hy, hno, hB⟩
  replace V := hid (var_below hB V.out)
  replace BB := hid (BB.out.trans (hB.mono BB.out.size))
  clear hB
  by_cases h : hOk k s c
  · obtain rfl := hy h
    clear hy hno
    obtain ⟨⟨-, -, -, d3⟩, -⟩ := var4_facts V.out
    by_cases h3 : n ≤ 300
    · have E := hid (lF_ok h h3)
      replace h := hid h
      go_wp2
      go_ret
      exact ⟨ret_n E.out.symm, BB.out⟩
    · have E := hid (lF_many h h3)
      replace h := hid h
      go_wp2
      go_ret
      exact ⟨ret_n E.out.symm, BB.out⟩
  · obtain rfl := hno h
    have E := hid (lF_range (n := n) h)
    replace h := hid h
    clear hy hno
    go_wp2
    go_ret
    exact ⟨ret_n E.out.symm, BB.out⟩
end Go.Proofs.YtckgjghpfjinfakGreat.W
