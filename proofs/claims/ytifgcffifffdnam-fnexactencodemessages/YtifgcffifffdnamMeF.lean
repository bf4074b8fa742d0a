/-
  Messages as bytes. Plain mathematics; no function of the program is named here.
-/
import Derived.Test.YtifgcffifffdnamMsF
import Derived.Test.YtifgcffifffdnamPack
namespace Go.Proofs.Ytifgcffifffdnam.W
open Go.RowKit
open Go.Proofs.Ytifgcffifffdnam.M

/-- Of a ping or one that is asked for. -/
def eP (k s n : Nat) : List Nat := ([k] ++ packL s 4) ++ [n]
def eA (s : Nat) : List Nat := [2] ++ packL s 4
def eC (cn ci cs cm : Nat) : List Nat := ((([4] ++ [cn]) ++ packL ci 4) ++ [cs]) ++ packL cm 4
def eK (op id' : Nat) (l : List Nat) : List Nat := ([5] ++ [op, id']) ++ l
/-- The bytes of a message without a fault. -/
def eB (m : Msg) : List Nat :=
  if m.k = 2 then eA m.s.toNat else if m.k = 4 then eC m.cn.toNat m.ci.toNat m.cs.toNat m.cm.toNat else if m.k = 5 then eK m.op.toNat m.id.toNat m.l else eP m.k.toNat m.s.toNat m.n.toNat
theorem packL_one (n : Nat) (h : n ≤ 255) : packL n 1 = [n] := by
  simp [packL, List.range_succ]
  omega
end Go.Proofs.Ytifgcffifffdnam.W
