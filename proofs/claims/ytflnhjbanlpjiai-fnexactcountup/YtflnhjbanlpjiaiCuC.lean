/-
  What CountUp tells: its code, its bytes.
-/
import Derived.Test.YtflnhjbanlpjiaiCtrF
namespace Go.Proofs.Ytflnhjbanlpjiai.M
open Go.RowKit
def cuC (l : List Nat) : Int := if l.length = 16 then 0 else 2
def cuB (l : List Nat) : List Nat := if l.length = 16 then cu l else []
theorem cuB_len (l : List Nat) : (cuB l).length ≤ 16 := by
  unfold cuB
  split
  · rename_i h
    rw [cu_len l h]; omega
  · simp
end Go.Proofs.Ytflnhjbanlpjiai.M
