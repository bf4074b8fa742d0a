/-
  Whether lengths fit: the model's l3Asked.
-/
import Derived.Test.YtckgjghpfjinfabBase
import Derived.Test.YtckgjghpfjinfabAskF
namespace Go.Proofs.Ytckgjghpfjinfab.W
open Go.ChangeShapes Go.WideShapes Go.ChangeAt Go.RowKit
open Go.Proofs.Ytckgjghpfjinfab.M

theorem l3asked (p1 p2 p3 : Option Addr) (c1 c2 c3 : Nat) (k n e : List Nat) (w : World) :
    Calls Try.prog 76 #[.slice p1 k.length c1, .slice p2 n.length c2, .slice p3 e.length c3] w fun r w' => r = .returned (.bool (askd k n e)) ∧ w' = w := by
  by_cases h1 : k.length = 16
  · by_cases h2 : n.length = 12
    · by_cases h3 : e.length ≤ 100
      · have E := hid (show askd k n e = true by simp [askd, h1, h2, h3])
        have d1 : ((k.length : Int) == 16) = true := by rw [h1]; rfl
        have d2 : ((n.length : Int) == 12) = true := by rw [h2]; rfl
        have d3 : (e.length : Int) ≤ 100 := by omega
        clear h1 h2 h3
        go_enter Try.func76, Try.ntmps76
        go_wp2
        go_ret
        exact ⟨ret_b E.out.symm, rfl⟩
      · have E := hid (show askd k n e = false by unfold askd; rw [decide_eq_false (fun h => h3 h.2.2)])
        have d1 : ((k.length : Int) == 16) = true := by rw [h1]; rfl
        have d2 : ((n.length : Int) == 12) = true := by rw [h2]; rfl
        have d3 : ¬ (e.length : Int) ≤ 100 := by omega
        clear h1 h2 h3
        go_enter Try.func76, Try.ntmps76
        go_wp2
        go_ret
        exact ⟨ret_b E.out.symm, rfl⟩
    · have E := hid (show askd k n e = false by unfold askd; rw [decide_eq_false (fun h => h2 h.2.1)])
      have d1 : ((k.length : Int) == 16) = true := by rw [h1]; rfl
      have d2 : ((n.length : Int) == 12) = false := by rw [beq_eq_false_iff_ne]; omega
      clear h1 h2
      go_enter Try.func76, Try.ntmps76
      go_wp2
      go_ret
      exact ⟨ret_b E.out.symm, rfl⟩
  · have E := hid (show askd k n e = false by unfold askd; rw [decide_eq_false (fun h => h1 h.1)])
    have d1 : ((k.length : Int) == 16) = false := by rw [beq_eq_false_iff_ne]; omega
    clear h1
    go_enter Try.func76, Try.ntmps76
    go_wp2
    go_ret
    exact ⟨ret_b E.out.symm, rfl⟩
end Go.Proofs.Ytckgjghpfjinfab.W
