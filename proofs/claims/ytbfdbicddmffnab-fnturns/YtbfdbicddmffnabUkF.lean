/-
  A ring's primary, turned: plain mathematics.
-/
import Derived.Test.YtbfdbicddmffnabLetF3
namespace Go.Proofs.Ytbfdbicddmffnab.M
open Go.RowKit

/-- What UseKey tells. -/
def ukIs (p : Int) (ks : List (Int × List Nat)) (id' c rk : Int) (t : List (Int × List Nat)) : Prop :=
  (rF p ks ≠ 0 ∧ c = rF p ks ∧ rk = 0 ∧ t = []) ∨ (rF p ks = 0 ∧ ¬ Has ks id' ∧ c = 4 ∧ rk = 0 ∧ t = []) ∨ (rF p ks = 0 ∧ Has ks id' ∧ c = 0 ∧ rk = id' ∧ t = ks)
theorem uk_some (p : Int) (ks : List (Int × List Nat)) (id' : Int) : ∃ c rk t, ukIs p ks id' c rk t := by
  by_cases h : rF p ks = 0
  · by_cases h2 : Has ks id'
    · exact ⟨_, _, _, .inr (.inr ⟨h, h2, rfl, rfl, rfl⟩)⟩
    · exact ⟨_, _, _, .inr (.inl ⟨h, h2, rfl, rfl, rfl⟩)⟩
  · exact ⟨_, _, _, .inl ⟨h, rfl, rfl, rfl⟩⟩
theorem uk_bad {p id' c rk : Int} {ks t : List (Int × List Nat)} (h : ukIs p ks id' c rk t) (h0 : rF p ks ≠ 0) : c = rF p ks ∧ rk = 0 ∧ t = [] := by
  rcases h with ⟨-, h⟩ | ⟨h, -⟩ | ⟨h, -⟩
  · exact h
  · exact absurd h h0
  · exact absurd h h0
theorem uk_none {p id' c rk : Int} {ks t : List (Int × List Nat)} (h : ukIs p ks id' c rk t) (h0 : rF p ks = 0) (h1 : ¬ Has ks id') : c = 4 ∧ rk = 0 ∧ t = [] := by
  rcases h with ⟨h, -⟩ | ⟨-, -, h⟩ | ⟨-, h, -⟩
  · exact absurd h0 h
  · exact h
  · exact absurd h h1
theorem uk_ok {p id' c rk : Int} {ks t : List (Int × List Nat)} (h : ukIs p ks id' c rk t) (h0 : rF p ks = 0) (h1 : Has ks id') : c = 0 ∧ rk = id' ∧ t = ks := by
  rcases h with ⟨h, -⟩ | ⟨-, h, -⟩ | ⟨-, -, h⟩
  · exact absurd h0 h
  · exact absurd h1 h
  · exact h
theorem tot_16 (ks : List (Int × List Nat)) (h : ∀ k ∈ ks, k.2.length = 16) : tot ks = 16 * ks.length := by
  induction ks with
  | nil => rfl
  | cons a t ih =>
    have h1 := ih fun k hk => h k (List.mem_cons_of_mem _ hk)
    have h2 := h a (List.mem_cons_self ..)
    simp only [tot, List.map_cons, List.sum_cons, List.length_cons] at h1 ⊢
    omega
theorem tot_small {p : Int} {ks : List (Int × List Nat)} (h : rF p ks = 0) : ks.length + tot ks ≤ 1048576 := by
  obtain ⟨-, h3, h16, -, -⟩ := rF_parts h
  rw [tot_16 ks fun k hk => by obtain ⟨i, hi, rfl⟩ := List.getElem_of_mem hk; exact (h16 i hi).2]
  omega
end Go.Proofs.Ytbfdbicddmffnab.M
