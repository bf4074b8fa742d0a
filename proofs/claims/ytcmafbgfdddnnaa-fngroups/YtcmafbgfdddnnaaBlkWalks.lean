/-
  What is a block: the program's isBlock, and the bytes of a slice as an array.
-/
import Derived.Test.YtcmafbgfdddnnaaBlkSize
import Derived.Test.YtcmafbgfdddnnaaBlkC
import Derived.Test.YtcmafbgfdddnnaaRangeM
namespace Go.Proofs.Ytcmafbgfdddnnaa.W
open Go.ChangeShapes Go.WideShapes Go.ChangeAt Go.RowKit
open Go.Proofs.Ytcmafbgfdddnnaa.M

theorem isblk (a : Option Addr) (n cap : Nat) (w : World) :
    Calls Try.prog 76 #[.slice a n cap] w fun e w' => e = .returned (.bool ((n : Int) == 16)) ∧ w' = w := by
  go_enter Try.func76, Try.ntmps76
  go_wp2
  go_ret
  exact ⟨rfl, rfl⟩
theorem isblk_yes (a : Option Addr) (cap : Nat) (w : World) :
    Calls Try.prog 76 #[.slice a 16 cap] w fun e w' => e = .returned (.bool true) ∧ w' = w := isblk a 16 cap w
theorem isblk_no (a : Option Addr) (n cap : Nat) (hn : n ≠ 16) (w : World) :
    Calls Try.prog 76 #[.slice a n cap] w fun e w' => e = .returned (.bool false) ∧ w' = w := by
  have h := isblk a n cap w
  rw [show ((n : Int) == 16) = false by simp; omega] at h
  exact h
end Go.Proofs.Ytcmafbgfdddnnaa.W
