/-
  What HashAll tells: its code, its bytes.
-/
import Derived.Test.YtcmafbgfdddnnaaHshF
namespace Go.Proofs.Ytcmafbgfdddnnaa.M
open Go.RowKit
def haC (h d : List Nat) : Int := if h.length ≠ 16 ∨ 800 < d.length then 2 else if d.length % 16 ≠ 0 then 1 else 0
def haB (h d : List Nat) : List Nat := if h.length ≠ 16 ∨ 800 < d.length then [] else if d.length % 16 ≠ 0 then [] else hshB h d
theorem haB_len (h d : List Nat) : (haB h d).length ≤ 16 := by
  unfold haB
  split
  · simp
  · split
    · simp
    · rw [hshB_len]; omega
end Go.Proofs.Ytcmafbgfdddnnaa.M
