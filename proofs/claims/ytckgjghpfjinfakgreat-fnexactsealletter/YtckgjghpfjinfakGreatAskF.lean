/-
  What SealText and OpenText tell: their codes, their bytes.
-/
import Derived.Test.YtckgjghpfjinfakGreatSealF
namespace Go.Proofs.YtckgjghpfjinfakGreat.M
open Go.RowKit
def askd (k n e : List Nat) : Bool := decide (k.length = 16 ∧ n.length = 12 ∧ e.length ≤ 100)
theorem askd_yes {k n e : List Nat} (h : askd k n e = true) : k.length = 16 ∧ n.length = 12 ∧ e.length ≤ 100 := by simpa [askd] using h
def slOk (k n e p : List Nat) : Bool := askd k n e && decide (p.length ≤ 600)
def slC (k n e p : List Nat) : Int := if slOk k n e p then 0 else 2
def slB (k n e p : List Nat) : List Nat := if slOk k n e p then sld (kf k) n e p else []
theorem slOk_parts {k n e p : List Nat} (h : slOk k n e p = true) : (k.length = 16 ∧ n.length = 12 ∧ e.length ≤ 100) ∧ p.length ≤ 600 := by
  simp only [slOk, Bool.and_eq_true, decide_eq_true_eq] at h
  exact ⟨askd_yes h.1, h.2⟩
theorem slB_len (k n e p : List Nat) : (slB k n e p).length ≤ 616 := by
  unfold slB
  split
  · rename_i h
    have q := slOk_parts h
    rw [sld_len _ _ _ _ q.1.2.1]
    omega
  · simp
def opOk (k n e s : List Nat) : Bool := askd k n e && decide (s.length ≤ 616)
def opC (k n e s : List Nat) : Int := if opOk k n e s then (if opens (kf k) n e s then 0 else 9) else 2
def opB (k n e s : List Nat) : List Nat := if opOk k n e s then (if opens (kf k) n e s then hid1 (kf k) n (s.take (s.length - 16)) else []) else []
theorem opOk_parts {k n e s : List Nat} (h : opOk k n e s = true) : (k.length = 16 ∧ n.length = 12 ∧ e.length ≤ 100) ∧ s.length ≤ 616 := by
  simp only [opOk, Bool.and_eq_true, decide_eq_true_eq] at h
  exact ⟨askd_yes h.1, h.2⟩
theorem opB_len (k n e s : List Nat) : (opB k n e s).length ≤ 616 := by
  unfold opB
  split
  · rename_i h
    have q := opOk_parts h
    split
    · rw [hid1, strm_len, List.length_take]
      omega
    · simp
  · simp
end Go.Proofs.YtckgjghpfjinfakGreat.M
