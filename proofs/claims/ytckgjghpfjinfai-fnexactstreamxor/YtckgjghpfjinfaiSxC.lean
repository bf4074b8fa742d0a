/-
  What StreamXor tells: its code, its bytes.
-/
import Derived.Test.YtckgjghpfjinfaiSealF
namespace Go.Proofs.Ytckgjghpfjinfai.M
open Go.RowKit
abbrev sxOk (k b d : List Nat) : Prop := k.length = 16 ∧ b.length = 16 ∧ d.length ≤ 600
def sxC (k b d : List Nat) : Int := if sxOk k b d then 0 else 2
def sxB (k b d : List Nat) : List Nat := if sxOk k b d then strm (kf k) b d else []
theorem sxB_len (k b d : List Nat) : (sxB k b d).length ≤ 600 := by
  unfold sxB
  split
  · rename_i h
    rw [strm_len]
    exact h.2.2
  · simp
end Go.Proofs.Ytckgjghpfjinfai.M
