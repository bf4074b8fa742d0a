/-
  What EncryptBlock tells: its code, its bytes.
-/
import Derived.Test.YtaopocjagikacaaEncF
namespace Go.Proofs.Ytaopocjagikacaa.M
open Go.RowKit
def encC (k l : List Nat) : Int := if k.length = 16 ∧ l.length = 16 then 0 else 2
def encB (k l : List Nat) : List Nat := if k.length = 16 ∧ l.length = 16 then enc (kf k) l else []
theorem encB_len (k l : List Nat) : (encB k l).length ≤ 16 := by
  unfold encB
  split
  · rename_i h
    exact Nat.le_of_eq (stt_len _ l h.2 10)
  · simp
end Go.Proofs.Ytaopocjagikacaa.M
