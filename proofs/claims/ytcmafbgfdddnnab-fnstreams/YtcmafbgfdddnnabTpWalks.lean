/-
  A byte times the power 1: what the program's timesPowerOne answers.
-/
import Derived.Test.YtcmafbgfdddnnabRows
import Derived.Test.YtcmafbgfdddnnabBytes
import Derived.WalkKit
import Derived.ProofKit
import Derived.WalkSpells
namespace Go.Proofs.Ytcmafbgfdddnnab.W
open Go.ChangeShapes Go.WideShapes Go.ChangeAt Go.RowKit
open Go.Proofs.Ytcmafbgfdddnnab.M

theorem tp1 (a : Nat) (ha : a < 256) (w : World) :
    Calls Try.prog 119 #[.int .u8 (a : Int)] w fun e w' => e = .returned (.int .u8 (xt a : Nat)) ∧ w' = w := by
  go_enter Try.func119, Try.ntmps119
  go_wp2
  · go_ret
    exact ⟨ret_int (xt_hi' a ‹_› ha), rfl⟩
  · go_ret
    exact ⟨ret_int (xt_lo' a ‹_› ha), rfl⟩

end Go.Proofs.Ytcmafbgfdddnnab.W
