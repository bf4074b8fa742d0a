/-
  The answer of a function of a block.
-/
import Derived.Test.YtcmafbgfdddnnaaSlX
namespace Go.Proofs.Ytcmafbgfdddnnaa.W
open Go.ChangeShapes Go.WideShapes Go.ChangeAt Go.RowKit
open Go.Proofs.Ytcmafbgfdddnnaa.M

/-- The answer of a function of a block. -/
def blkC (l : List Nat) : Int := if l.length = 16 then 0 else 2
def blkB (f : List Nat → List Nat) (l : List Nat) : List Nat := if l.length = 16 then f l else []
theorem blkB_len (f : List Nat → List Nat) (l : List Nat) (hf : ∀ l : List Nat, l.length = 16 → (f l).length = 16) : (blkB f l).length ≤ 16 := by
  unfold blkB
  split
  · rw [hf l ‹_›]; omega
  · simp
end Go.Proofs.Ytcmafbgfdddnnaa.W
