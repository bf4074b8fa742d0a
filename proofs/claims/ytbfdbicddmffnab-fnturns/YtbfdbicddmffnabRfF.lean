/-
  The faults of a ring: plain mathematics over keys as numbers and bytes. No program is named here.
-/
import Derived.Test.YtbfdbicddmffnabRng
namespace Go.Proofs.Ytbfdbicddmffnab.M

/-- The fault of a key. -/
def kF (k : Int × List Nat) : Int := if 1 ≤ k.1 ∧ k.1 ≤ 255 then (if k.2.length = 16 then 0 else 2) else 3
/-- The first fault among the keys. -/
def fk : List (Int × List Nat) → Int
  | [] => 0
  | k :: r => if kF k = 0 then fk r else kF k
theorem fk_all : ∀ (ks : List (Int × List Nat)), (∀ j (hj : j < ks.length), kF ks[j] = 0) → fk ks = 0
  | [], _ => rfl
  | k :: r, h => by
    have h0 : kF k = 0 := h 0 (by simp)
    rw [fk, if_pos h0]
    exact fk_all r fun j hj => h (j + 1) (by simpa using hj)
theorem fk_first : ∀ (ks : List (Int × List Nat)) (i : Nat) (hi : i < ks.length), (∀ j (hj : j < ks.length), j < i → kF ks[j] = 0) → kF ks[i] ≠ 0 → fk ks = kF ks[i]
  | [], i, hi, _, _ => by simp at hi
  | k :: r, 0, _, _, hne => by
    have h0 : kF k ≠ 0 := hne
    rw [fk, if_neg h0]
    rfl
  | k :: r, i + 1, hi, h, hne => by
    have h0 : kF k = 0 := h 0 (by simp) (by omega)
    rw [fk, if_pos h0]
    exact fk_first r i (by simpa using hi) (fun j hj hji => h (j + 1) (by simpa using hj) (by omega)) hne
/-- The numbers rise. -/
def Rise (ks : List (Int × List Nat)) : Prop := ∀ i (h : i + 1 < ks.length), (ks[i]'(by omega)).1 < (ks[i + 1]).1
/-- Some key has this number. -/
def Has (ks : List (Int × List Nat)) (p : Int) : Prop := ∃ i, ∃ h : i < ks.length, (ks[i]).1 = p
def riseB (ks : List (Int × List Nat)) : Bool := (List.range (ks.length - 1)).all fun i => decide ((ks.getD i (0, [])).1 < (ks.getD (i + 1) (0, [])).1)
def hasB (ks : List (Int × List Nat)) (p : Int) : Bool := ks.any fun k => k.1 == p
theorem riseB_iff (ks : List (Int × List Nat)) : riseB ks = true ↔ Rise ks := by
  unfold riseB Rise
  rw [List.all_eq_true]
  constructor
  · intro h i hi
    have q := h i (List.mem_range.2 (by omega))
    have h0 : i < ks.length := by omega
    simpa [List.getD_eq_getElem?_getD, h0, hi] using q
  · intro h i hi
    have h1 : i + 1 < ks.length := by have := List.mem_range.1 hi; omega
    have h0 : i < ks.length := by omega
    have q := h i h1
    simpa [List.getD_eq_getElem?_getD, h0, h1] using q
theorem hasB_iff (ks : List (Int × List Nat)) (p : Int) : hasB ks p = true ↔ Has ks p := by
  unfold hasB Has
  rw [List.any_eq_true]
  constructor
  · rintro ⟨k, hk, he⟩
    obtain ⟨i, hi, rfl⟩ := List.getElem_of_mem hk
    exact ⟨i, hi, by simpa using he⟩
  · rintro ⟨i, hi, he⟩
    exact ⟨ks[i], List.getElem_mem hi, by simpa using he⟩
/-- The fault of a ring. -/
def rF (p : Int) (ks : List (Int × List Nat)) : Int :=
  if ks.length < 1 ∨ 3 < ks.length then 2 else if fk ks ≠ 0 then fk ks else if riseB ks = false then 1 else if hasB ks p = false then 4 else 0
theorem rF_many {p : Int} {ks : List (Int × List Nat)} (h : ks.length < 1 ∨ 3 < ks.length) : rF p ks = 2 := by rw [rF, if_pos h]
theorem rF_key {p : Int} {ks : List (Int × List Nat)} (h : ¬ (ks.length < 1 ∨ 3 < ks.length)) (i : Nat) (hi : i < ks.length) (h1 : ∀ j (hj : j < ks.length), j < i → kF ks[j] = 0) (h2 : kF ks[i] ≠ 0) : rF p ks = kF ks[i] := by
  have e := fk_first ks i hi h1 h2
  rw [rF, if_neg h, if_pos (by rw [e]; exact h2), e]
theorem riseB_no {ks : List (Int × List Nat)} (h : ¬ Rise ks) : riseB ks = false := by
  cases q : riseB ks
  · rfl
  · exact absurd ((riseB_iff ks).1 q) h
theorem hasB_no {ks : List (Int × List Nat)} {p : Int} (h : ¬ Has ks p) : hasB ks p = false := by
  cases q : hasB ks p
  · rfl
  · exact absurd ((hasB_iff ks p).1 q) h
theorem rF_form {p : Int} {ks : List (Int × List Nat)} (h : ¬ (ks.length < 1 ∨ 3 < ks.length)) (h1 : ∀ j (hj : j < ks.length), kF ks[j] = 0) (h2 : ¬ Rise ks) : rF p ks = 1 := by
  rw [rF, if_neg h, if_neg (by rw [fk_all ks h1]; simp), if_pos (riseB_no h2)]
theorem rF_none {p : Int} {ks : List (Int × List Nat)} (h : ¬ (ks.length < 1 ∨ 3 < ks.length)) (h1 : ∀ j (hj : j < ks.length), kF ks[j] = 0) (h2 : Rise ks) (h3 : ¬ Has ks p) : rF p ks = 4 := by
  rw [rF, if_neg h, if_neg (by rw [fk_all ks h1]; simp), if_neg (by rw [(riseB_iff ks).2 h2]; simp), if_pos (hasB_no h3)]
theorem rF_ok {p : Int} {ks : List (Int × List Nat)} (h : ¬ (ks.length < 1 ∨ 3 < ks.length)) (h1 : ∀ j (hj : j < ks.length), kF ks[j] = 0) (h2 : Rise ks) (h3 : Has ks p) : rF p ks = 0 := by
  rw [rF, if_neg h, if_neg (by rw [fk_all ks h1]; simp), if_neg (by rw [(riseB_iff ks).2 h2]; simp), if_neg (by rw [(hasB_iff ks p).2 h3]; simp)]
end Go.Proofs.Ytbfdbicddmffnab.M
