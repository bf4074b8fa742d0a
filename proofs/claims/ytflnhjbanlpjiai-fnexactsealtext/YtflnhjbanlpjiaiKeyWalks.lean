/-
  What is a key: the program's isKey.
-/
import Derived.Test.YtflnhjbanlpjiaiBase
namespace Go.Proofs.Ytflnhjbanlpjiai.W
open Go.ChangeShapes Go.WideShapes Go.ChangeAt Go.RowKit
open Go.Proofs.Ytflnhjbanlpjiai.M

theorem iskey (a : Option Addr) (n cap : Nat) (w : World) :
    Calls Try.prog 31 #[.slice a n cap] w fun e w' => e = .returned (.bool ((n : Int) == 16)) ∧ w' = w := by
  go_enter Try.func31, Try.ntmps31
  go_wp2
  go_ret
  exact ⟨rfl, rfl⟩
theorem iskey_yes (a : Option Addr) (cap : Nat) (w : World) :
    Calls Try.prog 31 #[.slice a 16 cap] w fun e w' => e = .returned (.bool true) ∧ w' = w := iskey a 16 cap w
theorem iskey_no (a : Option Addr) (n cap : Nat) (hn : n ≠ 16) (w : World) :
    Calls Try.prog 31 #[.slice a n cap] w fun e w' => e = .returned (.bool false) ∧ w' = w := by
  have h := iskey a n cap w
  rw [show ((n : Int) == 16) = false by simp; omega] at h
  exact h
end Go.Proofs.Ytflnhjbanlpjiai.W
