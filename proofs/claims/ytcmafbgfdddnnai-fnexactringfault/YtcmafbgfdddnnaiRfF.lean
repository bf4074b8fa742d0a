/-
  The faults of a ring: plain mathematics over keys as numbers and bytes. No program is named here.
-/
import Derived.Test.YtcmafbgfdddnnaiRng
namespace Go.Proofs.Ytcmafbgfdddnnai.M

/-- The fault of a key. -/
def kF (k : Int × List Nat) : Int := if 1 ≤ k.1 ∧ k.1 ≤ 255 then (if k.2.length = 16 then 0 else 2) else 3
/-- The first fault among the keys. -/
def fk : List (Int × List Nat) → Int
  | [] => 0
  | k :: r => if kF k = 0 then fk r else kF k
theorem fk_all : ∀ (ks : List (Int × List Nat)), (∀ j (hj : j < ks.length), kF ks[j] = 0) → fk ks = 0
  | [], _ => rfl
  | k :: r, h => by
    have h0 : kF k = 0 := h 0 (by simp)
    rw [fk, if_pos h0]
    exact fk_all r fun j hj => h (j + 1) (by simpa using hj)
theorem fk_first : ∀ (ks : List (Int × List Nat)) (i : Nat) (hi : i < ks.length), (∀ j (hj : j < ks.length), j < i → kF ks[j] = 0) → kF ks[i] ≠ 0 → fk ks = kF ks[i]
  | [], i, hi, _, _ => by simp at hi
  | k :: r, 0, _, _, hne => by
    have h0 : kF k ≠ 0 := hne
    rw [fk, if_neg h0]
    rfl
  | k :: r, i + 1, hi, h, hne => by
    have h0 : kF k = 0 := h 0 (by simp) (by omega)
    rw [fk, if_pos h0]
    exact fk_first r i (by simpa using hi) (fun j hj hji => h (j + 1) (by simpa using hj) (by omega)) hne
/-- The numbers rise. -/
def Rise (ks : List (Int × List Nat)) : Prop := ∀ i (h : i + 1 < ks.length), (ks[i]'(by omega)).1 < (ks[i + 1]).1
/-- Some key has this number. -/
def Has (ks : List (Int × List Nat)) (p : Int) : Prop := ∃ i, ∃ h : i < ks.length, (ks[i]).1 = p
open Classical in
/-- The fault of a ring. -/
noncomputable def rF (p : Int) (ks : List (Int × List Nat)) : Int :=
  if ks.length < 1 ∨ 3 < ks.length then 2 else if fk ks ≠ 0 then fk ks else if ¬ Rise ks then 1 else if ¬ Has ks p then 4 else 0
theorem rF_many {p : Int} {ks : List (Int × List Nat)} (h : ks.length < 1 ∨ 3 < ks.length) : rF p ks = 2 := by rw [rF, if_pos h]
theorem rF_key {p : Int} {ks : List (Int × List Nat)} (h : ¬ (ks.length < 1 ∨ 3 < ks.length)) (i : Nat) (hi : i < ks.length) (h1 : ∀ j (hj : j < ks.length), j < i → kF ks[j] = 0) (h2 : kF ks[i] ≠ 0) : rF p ks = kF ks[i] := by
  have e := fk_first ks i hi h1 h2
  rw [rF, if_neg h, if_pos (by rw [e]; exact h2), e]
theorem rF_form {p : Int} {ks : List (Int × List Nat)} (h : ¬ (ks.length < 1 ∨ 3 < ks.length)) (h1 : ∀ j (hj : j < ks.length), kF ks[j] = 0) (h2 : ¬ Rise ks) : rF p ks = 1 := by
  rw [rF, if_neg h, if_neg (by rw [fk_all ks h1]; simp), if_pos h2]
theorem rF_none {p : Int} {ks : List (Int × List Nat)} (h : ¬ (ks.length < 1 ∨ 3 < ks.length)) (h1 : ∀ j (hj : j < ks.length), kF ks[j] = 0) (h2 : Rise ks) (h3 : ¬ Has ks p) : rF p ks = 4 := by
  rw [rF, if_neg h, if_neg (by rw [fk_all ks h1]; simp), if_neg (by simpa using h2), if_pos h3]
theorem rF_ok {p : Int} {ks : List (Int × List Nat)} (h : ¬ (ks.length < 1 ∨ 3 < ks.length)) (h1 : ∀ j (hj : j < ks.length), kF ks[j] = 0) (h2 : Rise ks) (h3 : Has ks p) : rF p ks = 0 := by
  rw [rF, if_neg h, if_neg (by rw [fk_all ks h1]; simp), if_neg (by simpa using h2), if_neg (by simpa using h3)]
end Go.Proofs.Ytcmafbgfdddnnai.M
