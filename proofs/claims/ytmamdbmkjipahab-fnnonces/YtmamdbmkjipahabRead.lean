/-
  Numbers out of bytes: plain mathematics. No program is named here.
-/
import Derived.Test.YtmamdbmkjipahabSl
namespace Go.Proofs.Ytmamdbmkjipahab.M
open Go.RowKit

/-- The number that k bytes of l tell from place 'at' on, the highest one first. -/
def vt (l : List Nat) (a : Nat) : Nat → Nat
  | 0 => 0
  | k + 1 => vt l a k * 256 + l.getD (a + k) 0
theorem getD_lt (l : List Nat) (h : Byt l) (i : Nat) : l.getD i 0 < 256 := by
  rw [List.getD_eq_getElem?_getD]
  by_cases hi : i < l.length
  · rw [List.getElem?_eq_getElem hi]; exact h.at i hi
  · rw [List.getElem?_eq_none (by omega)]; decide
theorem getD_at (l : List Nat) (i : Nat) (h : i < l.length) : l.getD i 0 = l[i] := by
  rw [List.getD_eq_getElem?_getD, List.getElem?_eq_getElem h]; rfl
theorem vt_lt (l : List Nat) (h : Byt l) (a : Nat) : ∀ k, vt l a k < 256 ^ k
  | 0 => by simp [vt]
  | k + 1 => by
    have h1 := vt_lt l h a k
    have h2 := getD_lt l h (a + k)
    rw [vt, Nat.pow_succ]
    omega
theorem vt_top (l : List Nat) (a : Nat) : ∀ k, vt l a (k + 1) = l.getD a 0 * 256 ^ k + vt l (a + 1) k
  | 0 => by simp [vt]
  | k + 1 => by
    have ih := vt_top l a k
    rw [vt, ih, vt, Nat.pow_succ, show a + (k + 1) = a + 1 + k by omega]
    rw [Nat.add_mul, Nat.mul_assoc]
    omega
theorem pow256 : (256 : Nat) ^ 6 = 281474976710656 ∧ (256 : Nat) ^ 7 = 72057594037927936 ∧ (256 : Nat) ^ 8 = 18446744073709551616 := by decide
theorem vt_mono (k m : Nat) (h : k ≤ m) : (256 : Nat) ^ k ≤ 256 ^ m := Nat.pow_le_pow_right (by omega) h
/-- Ahead of the eighth byte alone there may be too much. -/
theorem vt_small (l : List Nat) (h : Byt l) (a k : Nat) (hk : k ≤ 6) : vt l a k < 36028797018963968 := by
  have h1 := vt_lt l h a k
  have h2 := vt_mono k 6 hk
  have h3 := pow256.1
  omega
theorem vt_seven (l : List Nat) (h : Byt l) (a : Nat) : 36028797018963968 ≤ vt l a 7 ↔ 127 < l.getD a 0 := by
  have h1 : vt l a 7 = l.getD a 0 * 256 ^ 6 + vt l (a + 1) 6 := vt_top l a 6
  have h2 := vt_lt l h (a + 1) 6
  rw [pow256.1] at h1 h2
  omega
theorem vt_fits (l : List Nat) (h : Byt l) (a k : Nat) (hk : k ≤ 8) (hf : ¬ (k = 8 ∧ 127 < l.getD a 0)) : vt l a k < 9223372036854775808 := by
  by_cases e : k = 8
  · subst e
    have h1 : ¬ 36028797018963968 ≤ vt l a 7 := fun q => hf ⟨rfl, (vt_seven l h a).1 q⟩
    have h2 := getD_lt l h (a + 7)
    have h3 : vt l a 8 = vt l a 7 * 256 + l.getD (a + 7) 0 := rfl
    omega
  · have h1 := vt_lt l h a k
    have h2 := vt_mono k 7 (by omega)
    have h3 := pow256.2.1
    omega
/-- What ReadWord tells: its code, its value. -/
def rdOk (l : List Nat) (a s : Int) : Bool := decide ((1 ≤ s ∧ s ≤ 8) ∧ 0 ≤ a ∧ a ≤ (l.length : Int) - s)
def rdC (l : List Nat) (a s : Int) : Int := if rdOk l a s then (if s = 8 ∧ 127 < l.getD a.toNat 0 then 1 else 0) else 3
def rdV (l : List Nat) (a s : Int) : Int := if rdOk l a s then (if s = 8 ∧ 127 < l.getD a.toNat 0 then 0 else (vt l a.toNat s.toNat : Nat)) else 0
end Go.Proofs.Ytmamdbmkjipahab.M
