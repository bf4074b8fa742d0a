/-
  What the law of decisions asks of RefuteBy, SuspectBy and BuryBy: of the answers as lists and numbers alone.
-/
import Derived.Test.YtalaolfcdaaaoaaCrB
namespace Go.Proofs.Ytalaolfcdaaaoaa.W
open Go.Proofs.Ytalaolfcdaaaoaa.M

theorem bC_up {X : Clm} {s : Int} (h : X.s < s) : bC ⟨X.n, X.i, s, X.m⟩ X = true := by
  unfold bC
  simp [h]
/-- Who suspects: it was alive, it is of the same time, and what is told beats it. -/
theorem su_law {cs : List Clm} {n : Int} (h1 : (suA cs n).2.2 = true) :
    ∃ X : Clm, fcC cs n = 0 ∧ fcL cs n = [X] ∧ (suA cs n).2.1 = ⟨X.n, X.i, 1, X.m⟩ ∧ bC (suA cs n).2.1 X = true ∧ (suA cs n).2.1.i = X.i := by
  by_cases hf : vF cs = 0
  · by_cases hh : hasN cs n = true
    · refine ⟨cs.getD (lb cs n) zC, by rw [fcC, if_neg (by simp [hf]), if_pos hh], by rw [fcL, if_pos ⟨hf, hh⟩], ?_⟩
      by_cases q : (cs.getD (lb cs n) zC).s = 0
      · have e := su_made hf hh rfl q
        rw [e]
        exact ⟨rfl, bC_up (by omega), rfl⟩
      · have e := su_same hf hh rfl q
        rw [e] at h1
        cases h1
    · have e := su_none (n := n) hf (by simpa using hh)
      rw [e] at h1
      cases h1
  · have e := su_fault (n := n) hf
    rw [e] at h1
    cases h1
/-- Who buries: it was suspected at the wait's time. -/
theorem bu_law {cs : List Clm} {x : Wai} (h1 : (buA cs x).2.2 = true) :
    ∃ X : Clm, fcC cs x.c = 0 ∧ fcL cs x.c = [X] ∧ (buA cs x).2.1 = ⟨X.n, X.i, 2, X.m⟩ ∧ (buA cs x).2.1.i = x.d ∧ (buA cs x).2.1.s = 2 ∧ bC (buA cs x).2.1 X = true := by
  by_cases hf : vF cs = 0
  · by_cases hw : wt1 x = 0
    · by_cases hh : hasN cs x.c = true
      · refine ⟨cs.getD (lb cs x.c) zC, by rw [fcC, if_neg (by simp [hf]), if_pos hh], by rw [fcL, if_pos ⟨hf, hh⟩], ?_⟩
        by_cases q : x.a = 3 ∧ (cs.getD (lb cs x.c) zC).s = 1 ∧ (cs.getD (lb cs x.c) zC).i = x.d
        · have e := bu_made hf hw hh rfl q
          rw [e]
          exact ⟨rfl, q.2.2, rfl, bC_up (by omega)⟩
        · have e := bu_same hf hw hh rfl q
          rw [e] at h1
          cases h1
      · have e := bu_none hf hw (by simpa using hh)
        rw [e] at h1
        cases h1
    · have e := bu_wait (x := x) hf hw
      rw [e] at h1
      cases h1
  · have e := bu_fault (x := x) hf
    rw [e] at h1
    cases h1
theorem bC_self (a : Clm) : bC a a = false := by
  unfold bC
  simp
/-- Who refutes: nothing that was told beats it; what it makes beats both. -/
theorem rf_law {own c : Clm} (h0 : (rfA own c).1 = 0) :
    bC c (rfA own c).2.1 = false ∧ (rfA own c).2.1.n = own.n ∧ (rfA own c).2.1.m = own.m ∧
      (((rfA own c).2.2 = false ∧ (rfA own c).2.1 = own) ∨ ((rfA own c).2.2 = true ∧ bC (rfA own c).2.1 own = true ∧ bC (rfA own c).2.1 c = true ∧ (rfA own c).2.1.s = 0)) := by
  by_cases a1 : clC own = 0
  · by_cases a2 : clC c = 0
    · by_cases a3 : c.n = own.n
      · by_cases a4 : bC c own = false
        · have e : rfA own c = (0, own, false) := by rw [rfA, if_neg (by simp [a1]), if_neg (by simp [a2]), if_neg (by simp [a3]), if_pos a4]
          rw [e]
          exact ⟨a4, rfl, rfl, .inl ⟨rfl, rfl⟩⟩
        · by_cases a5 : 1000000 ≤ c.i
          · have e : rfA own c = (7, zC, false) := by rw [rfA, if_neg (by simp [a1]), if_neg (by simp [a2]), if_neg (by simp [a3]), if_neg a4, if_pos a5]
            rw [e] at h0
            exact absurd h0 (by decide)
          · have e : rfA own c = (0, ⟨own.n, c.i + 1, 0, own.m⟩, true) := by rw [rfA, if_neg (by simp [a1]), if_neg (by simp [a2]), if_neg (by simp [a3]), if_neg a4, if_neg a5]
            rw [e]
            have a6 : own.i ≤ c.i := by
              rw [Bool.not_eq_false] at a4
              unfold bC at a4
              simp only [Bool.or_eq_true, Bool.and_eq_true, decide_eq_true_eq] at a4
              omega
            refine ⟨?_, rfl, rfl, .inr ⟨rfl, ?_, ?_, rfl⟩⟩
            · unfold bC
              simp only [Bool.or_eq_false_iff, Bool.and_eq_false_iff, decide_eq_false_iff_not]
              exact ⟨by omega, .inl (by omega)⟩
            · unfold bC
              simp only [Bool.or_eq_true, Bool.and_eq_true, decide_eq_true_eq]
              exact .inl (by omega)
            · unfold bC
              simp only [Bool.or_eq_true, Bool.and_eq_true, decide_eq_true_eq]
              exact .inl (by omega)
      · have e : rfA own c = (1, zC, false) := by rw [rfA, if_neg (by simp [a1]), if_neg (by simp [a2]), if_pos a3]
        rw [e] at h0
        exact absurd h0 (by decide)
    · have e : rfA own c = (clC c, zC, false) := by rw [rfA, if_neg (by simp [a1]), if_pos a2]
      rw [e] at h0
      exact absurd h0 a2
  · have e : rfA own c = (clC own, zC, false) := by rw [rfA, if_pos a1]
    rw [e] at h0
    exact absurd h0 a1
end Go.Proofs.Ytalaolfcdaaaoaa.W
