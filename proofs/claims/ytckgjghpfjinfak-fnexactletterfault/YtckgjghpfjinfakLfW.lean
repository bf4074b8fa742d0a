/-
  The fault of a letter: what LetterFault of the model and of the program answers.
-/
import Derived.Test.YtckgjghpfjinfakLetF
import Derived.Test.YtckgjghpfjinfakMarkW
import Derived.Test.YtckgjghpfjinfakL5hW
import Derived.Test.YtckgjghpfjinfakHolW
namespace Go.Proofs.Ytckgjghpfjinfak.W
open Go.ChangeShapes Go.WideShapes Go.ChangeAt Go.RowKit
open Go.Proofs.Ytckgjghpfjinfak.M

theorem ret_n {a b : Int} (h : a = b) : Ending.returned (.int .i64 a) = .returned (.int .i64 b) := by rw [h]
set_option maxRecDepth 100000 in
theorem slf (k s c : Int) (a : Option Addr) (n cap : Nat) (w : World) (hn : n ≤ maxLen) :
    Calls Try.prog 9 #[.agg #[.int .i64 k, .int .i64 s, .int .i64 c, .slice a n cap]] w fun e w' => e = .returned (.int .i64 (lF k s c n)) ∧ Below w.heap.size w w' := by
  unfold maxLen at hn
  have V := hid (heap_alloc_new w (.cells #[.int .i64 k, .int .i64 s, .int .i64 c, .slice a n cap] 27))
  have BB := hid (below_alloc1 w (.cells #[.int .i64 k, .int .i64 s, .int .i64 c, .slice a n cap] 27))
  go_enter Try.func9, Try.ntmps9
  go_wp2_with fail
  refine (l5head _ _ _ _ _ _ V.out).mono ?_
  rintro e w1 ⟨b, rfl, hy, hno, hB⟩
  replace V := hid (var_below hB V.out)
  replace BB := hid (BB.out.trans (hB.mono BB.out.size))
  clear hB
  by_cases h : hOk k s c
  · obtain rfl := hy h
    clear hy hno
    obtain ⟨⟨-, -, -, d3⟩, -⟩ := var4_facts V.out
    by_cases h3 : n ≤ 300
    · have E := hid (lF_ok h h3)
      replace h := hid h
      go_wp2
      go_ret
      exact ⟨ret_n E.out.symm, BB.out⟩
    · have E := hid (lF_many h h3)
      replace h := hid h
      go_wp2
      go_ret
      exact ⟨ret_n E.out.symm, BB.out⟩
  · obtain rfl := hno h
    have E := hid (lF_range (n := n) h)
    replace h := hid h
    clear hy hno
    go_wp2
    go_ret
    exact ⟨ret_n E.out.symm, BB.out⟩
set_option maxRecDepth 100000 in
theorem ilf (k s c : Int) (a : Option Addr) (n cap : Nat) (w : World) (hn : n ≤ maxLen) :
    Calls Try.prog 11 #[.agg #[.int .i64 k, .int .i64 s, .int .i64 c, .slice a n cap]] w fun e w' => e = .returned (.int .i64 (lF k s c n)) ∧ Below w.heap.size w w' := by
  unfold maxLen at hn
  have V := hid (heap_alloc_new w (.cells #[.int .i64 k, .int .i64 s, .int .i64 c, .slice a n cap] 27))
  have BB := hid (below_alloc1 w (.cells #[.int .i64 k, .int .i64 s, .int .i64 c, .slice a n cap] 27))
  obtain ⟨⟨d0, d1, d2, d3⟩, -⟩ := var4_facts V.out
  go_enter Try.func11, Try.ntmps11
  go_wp2_with fail
  refine (ihol _ _ _ _ _ _ _).mono ?_
  rintro e w1 ⟨rfl, hB⟩
  replace V := hid (var_below hB V.out)
  replace BB := hid (BB.out.trans (hB.mono BB.out.size))
  clear hB d0 d1 d2 d3
  go_wp2_with fail
  refine (iright _ _ _ _).mono ?_
  rintro e w2 ⟨b, rfl, hy, hno, hB⟩
  replace V := hid (var_below hB V.out)
  replace BB := hid (BB.out.trans (hB.mono BB.out.size))
  clear hB
  by_cases h : hOk k s c
  · obtain rfl := hy h
    clear hy hno
    obtain ⟨⟨-, -, -, d3⟩, -⟩ := var4_facts V.out
    go_wp2_with fail
    refine (within1 _ _ _ _ _ (heap_alloc_new w2 _)).mono ?_
    rintro e w3 ⟨rfl, hB⟩
    replace hB := (below_alloc1 w2 (.cells #[.int .i64 (n : Int), .int .i64 0, .int .i64 300] 70)).trans (hB.mono (by simp))
    replace BB := hid (BB.out.trans (hB.mono BB.out.size))
    clear hB d3 V
    by_cases h3 : n ≤ 300
    · have E := hid (lF_ok h h3)
      rw [show inB (n : Int) 0 300 = true by unfold inB; exact decide_eq_true (by omega)]
      replace h := hid h
      go_wp2
      go_ret
      exact ⟨ret_n E.out.symm, BB.out⟩
    · have E := hid (lF_many h h3)
      rw [show inB (n : Int) 0 300 = false by unfold inB; exact decide_eq_false (by omega)]
      replace h := hid h
      go_wp2
      go_ret
      exact ⟨ret_n E.out.symm, BB.out⟩
  · obtain rfl := hno h
    have E := hid (lF_range (n := n) h)
    replace h := hid h
    clear hy hno
    go_wp2
    go_ret
    exact ⟨ret_n E.out.symm, BB.out⟩
end Go.Proofs.Ytckgjghpfjinfak.W
