/-
  Whole blocks, what a tag hashes, the first block of a nonce: plain mathematics. No program is named here.
-/
import Derived.Test.YtckgjghpfjinfakGreatArr
import Derived.Test.YtckgjghpfjinfakGreatPack
namespace Go.Proofs.YtckgjghpfjinfakGreat.M
open Go.RowKit

/-- Bytes, and as few zeros as make whole blocks. -/
def whole (l : List Nat) : List Nat := l ++ zs ((16 - l.length % 16) % 16)
theorem whole_len (l : List Nat) : (whole l).length = l.length + (16 - l.length % 16) % 16 := by simp [whole, zs]
theorem whole_mod (l : List Nat) : (whole l).length % 16 = 0 := by rw [whole_len]; omega
theorem zs_byt (n : Nat) : Byt (zs n) := by
  intro x hx
  rw [List.eq_of_mem_replicate hx]
  decide
theorem app_byt {a b : List Nat} (ha : Byt a) (hb : Byt b) : Byt (a ++ b) := fun x hx => (List.mem_append.1 hx).elim (ha x) (hb x)
theorem whole_byt (l : List Nat) (y : Byt l) : Byt (whole l) := app_byt y (zs_byt _)
/-- What the tag hashes. -/
def thash (e c : List Nat) : List Nat := whole e ++ whole c ++ packL (8 * e.length) 8 ++ packL (8 * c.length) 8
theorem thash_len (e c : List Nat) : (thash e c).length = (whole e).length + (whole c).length + 16 := by simp [thash, packL_len]; omega
theorem thash_byt (e c : List Nat) (ye : Byt e) (yc : Byt c) : Byt (thash e c) := app_byt (app_byt (app_byt (whole_byt e ye) (whole_byt c yc)) (packL_byt _ _)) (packL_byt _ _)
theorem thash_mod (e c : List Nat) : (thash e c).length % 16 = 0 := by
  have h1 := whole_mod e
  have h2 := whole_mod c
  rw [thash_len]
  omega
/-- The first block of a nonce. -/
def jb (n : List Nat) : List Nat := n ++ [0, 0, 0, 1]
theorem jb_len (n : List Nat) (h : n.length = 12) : (jb n).length = 16 := by simp [jb, h]
theorem jb_byt (n : List Nat) (y : Byt n) : Byt (jb n) := app_byt y (by intro x hx; simp at hx; omega)
end Go.Proofs.YtckgjghpfjinfakGreat.M
