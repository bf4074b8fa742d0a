/-
  A byte times the power 1: what the program's timesPowerOne answers.
-/
import Derived.Test.YtckgjghpfjinfaiRows
import Derived.Test.YtckgjghpfjinfaiBytes
import Derived.WalkKit
import Derived.ProofKit
import Derived.WalkSpells
namespace Go.Proofs.Ytckgjghpfjinfai.W
open Go.ChangeShapes Go.WideShapes Go.ChangeAt Go.RowKit
open Go.Proofs.Ytckgjghpfjinfai.M

theorem tp1 (a : Nat) (ha : a < 256) (w : World) :
    Calls Try.prog 98 #[.int .u8 (a : Int)] w fun e w' => e = .returned (.int .u8 (xt a : Nat)) ∧ w' = w := by
  go_enter Try.func98, Try.ntmps98
  go_wp2
  · go_ret
    exact ⟨ret_int (xt_hi' a ‹_› ha), rfl⟩
  · go_ret
    exact ⟨ret_int (xt_lo' a ‹_› ha), rfl⟩

end Go.Proofs.Ytckgjghpfjinfai.W
