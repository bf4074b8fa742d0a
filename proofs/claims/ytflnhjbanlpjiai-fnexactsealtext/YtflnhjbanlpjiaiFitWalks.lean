/-
  Whether lengths fit: the program's sealFits.
-/
import Derived.Test.YtflnhjbanlpjiaiKeyWalks
import Derived.Test.YtflnhjbanlpjiaiWithin
import Derived.Test.YtflnhjbanlpjiaiAskF
namespace Go.Proofs.Ytflnhjbanlpjiai.W
open Go.ChangeShapes Go.WideShapes Go.ChangeAt Go.RowKit
open Go.Proofs.Ytflnhjbanlpjiai.M

set_option maxRecDepth 100000 in
theorem sfits (p1 p2 p3 : Option Addr) (c1 c2 c3 : Nat) (k n e : List Nat) (w : World) :
    Calls Try.prog 37 #[.slice p1 k.length c1, .slice p2 n.length c2, .slice p3 e.length c3] w fun r w' => r = .returned (.bool (askd k n e)) ∧ Below w.heap.size w w' := by
  by_cases h1 : k.length = 16
  · by_cases h2 : n.length = 12
    · have E := hid (show inB (e.length : Int) 0 100 = askd k n e by
        unfold inB askd
        by_cases h3 : e.length ≤ 100
        · rw [decide_eq_true (by omega), decide_eq_true ⟨h1, h2, h3⟩]
        · rw [decide_eq_false (by omega), decide_eq_false (fun h => h3 h.2.2)])
      have d2 : ((n.length : Int) == 12) = true := by rw [h2]; rfl
      rw [h1]
      clear h1 h2
      go_enter Try.func37, Try.ntmps37
      go_wp2_with fail
      refine (iskey_yes _ _ _).mono ?_
      rintro r W ⟨rfl, rfl⟩
      go_wp2_with fail
      refine (within1 (e.length : Int) 0 100 W.heap.size _ (heap_alloc_new W _)).mono ?_
      rintro r w3 ⟨rfl, hM⟩
      rw [E.out]
      replace hM := hid ((below_alloc1 W (.cells #[.int .i64 (e.length : Int), .int .i64 0, .int .i64 100] 46)).trans (hM.mono (by simp)))
      go_wp2
      go_ret
      exact ⟨rfl, hM.out⟩
    · have E := hid (show askd k n e = false by unfold askd; rw [decide_eq_false (fun h => h2 h.2.1)])
      have d2 : ((n.length : Int) == 12) = false := by rw [beq_eq_false_iff_ne]; omega
      rw [h1]
      clear h1 h2
      go_enter Try.func37, Try.ntmps37
      go_wp2_with fail
      refine (iskey_yes _ _ _).mono ?_
      rintro r W ⟨rfl, rfl⟩
      go_wp2
      go_ret
      exact ⟨ret_b E.out.symm, Below.refl _ _⟩
  · have E := hid (show askd k n e = false by unfold askd; rw [decide_eq_false (fun h => h1 h.1)])
    have H1 := hid h1
    clear h1
    go_enter Try.func37, Try.ntmps37
    go_wp2_with fail
    refine (iskey_no _ _ _ H1.out _).mono ?_
    rintro r W ⟨rfl, rfl⟩
    go_wp2
    go_ret
    exact ⟨ret_b E.out.symm, Below.refl _ _⟩
end Go.Proofs.Ytflnhjbanlpjiai.W
