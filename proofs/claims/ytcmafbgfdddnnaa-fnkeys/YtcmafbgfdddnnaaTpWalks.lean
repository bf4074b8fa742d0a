/-
  A byte times the power 1: what the program's timesPowerOne answers.
-/
import Derived.Test.YtcmafbgfdddnnaaRows
import Derived.Test.YtcmafbgfdddnnaaBytes
import Derived.WalkKit
import Derived.ProofKit
import Derived.WalkSpells
namespace Go.Proofs.Ytcmafbgfdddnnaa.W
open Go.ChangeShapes Go.WideShapes Go.ChangeAt Go.RowKit
open Go.Proofs.Ytcmafbgfdddnnaa.M

theorem tp1 (a : Nat) (ha : a < 256) (w : World) :
    Calls Try.prog 73 #[.int .u8 (a : Int)] w fun e w' => e = .returned (.int .u8 (xt a : Nat)) ∧ w' = w := by
  go_enter Try.func73, Try.ntmps73
  go_wp2
  · go_ret
    exact ⟨ret_int (xt_hi' a ‹_› ha), rfl⟩
  · go_ret
    exact ⟨ret_int (xt_lo' a ‹_› ha), rfl⟩

end Go.Proofs.Ytcmafbgfdddnnaa.W
