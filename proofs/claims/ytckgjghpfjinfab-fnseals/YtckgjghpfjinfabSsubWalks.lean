/-
  The box: what the model's table answers.
-/
import Derived.Test.YtckgjghpfjinfabBase
import Derived.Test.YtckgjghpfjinfabField
namespace Go.Proofs.Ytckgjghpfjinfab.W
open Go.ChangeShapes Go.WideShapes Go.ChangeAt Go.RowKit
open Go.Proofs.Ytckgjghpfjinfab.M

set_option maxRecDepth 100000 in
theorem ssub (a : Nat) (ha : a < 256) (w : World) :
    Calls Try.prog 117 #[.int .u8 (a : Int)] w fun e w' => e = .returned (.int .u8 (sbx a : Nat)) ∧ w' = w := by
  go_enter Try.func117, Try.ntmps117
  go_wp2
  go_ret
  exact ⟨ret_int (congrArg (fun n : Nat => (n : Int)) (box_fin ⟨a, ha⟩)), rfl⟩

end Go.Proofs.Ytckgjghpfjinfab.W
