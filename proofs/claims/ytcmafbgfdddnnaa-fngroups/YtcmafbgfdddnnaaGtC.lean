/-
  What GroupTimes tells: its code, its bytes.
-/
import Derived.Test.YtcmafbgfdddnnaaGrpF
namespace Go.Proofs.Ytcmafbgfdddnnaa.M
open Go.RowKit
def gtC (a b : List Nat) : Int := if a.length = 16 ∧ b.length = 16 then 0 else 2
def gtB (a b : List Nat) : List Nat := if a.length = 16 ∧ b.length = 16 then gtm a b else []
theorem gtB_len (a b : List Nat) : (gtB a b).length ≤ 16 := by
  unfold gtB
  split
  · rw [gtm_len]; omega
  · simp
end Go.Proofs.Ytcmafbgfdddnnaa.M
