/-
  Numbers as bytes: plain mathematics. No program is named here.
-/
import Derived.Test.YtalaolfcdaaaoaaSl
namespace Go.Proofs.Ytalaolfcdaaaoaa.M
open Go.RowKit

/-- The number n in s bytes, the highest one first. -/
def packL (n s : Nat) : List Nat := (List.range s).map fun i => n / 256 ^ (s - 1 - i) % 256
theorem packL_len (n s : Nat) : (packL n s).length = s := by simp [packL]
theorem packL_at (n s i : Nat) (h : i < (packL n s).length) : (packL n s)[i] = n / 256 ^ (s - 1 - i) % 256 := by simp [packL]
theorem packL_byt (n s : Nat) : Byt (packL n s) := by
  intro x hx
  simp only [packL, List.mem_map] at hx
  obtain ⟨i, _, rfl⟩ := hx
  omega
/-- From place j on it is packed. -/
def packed (n s j : Nat) : List Nat := List.replicate j 0 ++ (packL n s).drop j
theorem packed_len (n s j : Nat) (h : j ≤ s) : (packed n s j).length = s := by simp [packed, packL_len]; omega
theorem packed_zero (n s : Nat) : packed n s 0 = packL n s := by simp [packed]
theorem packed_all (n s : Nat) : packed n s s = List.replicate s 0 := by simp [packed, packL_len]
theorem packed_set (n s j : Nat) (h : j < s) : (packed n s (j + 1)).set j (n / 256 ^ (s - (j + 1)) % 256) = packed n s j := by
  unfold packed
  have hl : j < (packL n s).length := by rw [packL_len]; exact h
  have e1 : List.replicate (j + 1) 0 = List.replicate j 0 ++ [0] := by rw [List.replicate_succ']
  rw [List.drop_eq_getElem_cons hl, packL_at, e1, List.append_assoc, List.singleton_append, List.set_append_right _ _ (by simp), List.length_replicate, Nat.sub_self, List.set_cons_zero, show s - 1 - j = s - (j + 1) by omega]
theorem quot_step (n k : Nat) : n / 256 ^ k / 256 = n / 256 ^ (k + 1) := by rw [Nat.div_div_eq_div_mul, Nat.pow_succ]
/-- What PackWord tells: its code, its bytes. -/
def packOk (n s : Int) : Bool := decide ((1 ≤ s ∧ s ≤ 8) ∧ 0 ≤ n ∧ n < 256 ^ s.toNat)
def packC (n s : Int) : Int := if packOk n s then 0 else 3
def packB (n s : Int) : List Nat := if packOk n s then packL n.toNat s.toNat else []
theorem packB_len (n s : Int) : (packB n s).length ≤ 8 := by
  unfold packB
  split
  · rename_i h
    simp only [packOk, decide_eq_true_eq] at h
    rw [packL_len]; omega
  · simp
theorem packB_byt (n s : Int) : Byt (packB n s) := by
  unfold packB
  split
  · exact packL_byt _ _
  · intro x hx; simp at hx
end Go.Proofs.Ytalaolfcdaaaoaa.M
