/-
  What is told of a ring that loses a key.
-/
import Derived.Test.YtbfdbicddmffnabRmF
namespace Go.Proofs.Ytbfdbicddmffnab.W
open Go.ChangeShapes Go.WideShapes Go.ChangeAt Go.RowKit
open Go.Proofs.Ytbfdbicddmffnab.M

/-- What RemoveKey tells. -/
def rmIs (p : Int) (ks : List (Int × List Nat)) (id' c rk : Int) (t : List (Int × List Nat)) : Prop :=
  (rF p ks ≠ 0 ∧ c = rF p ks ∧ rk = 0 ∧ t = []) ∨ (rF p ks = 0 ∧ ¬ Has ks id' ∧ c = 4 ∧ rk = 0 ∧ t = []) ∨ (rF p ks = 0 ∧ Has ks id' ∧ id' = p ∧ c = 8 ∧ rk = 0 ∧ t = []) ∨ (rF p ks = 0 ∧ Has ks id' ∧ id' ≠ p ∧ c = 0 ∧ rk = p ∧ t = rmv id' ks)
theorem rm_some (p : Int) (ks : List (Int × List Nat)) (id' : Int) : ∃ c rk t, rmIs p ks id' c rk t := by
  by_cases h : rF p ks = 0
  · by_cases h2 : Has ks id'
    · by_cases h3 : id' = p
      · exact ⟨_, _, _, .inr (.inr (.inl ⟨h, h2, h3, rfl, rfl, rfl⟩))⟩
      · exact ⟨_, _, _, .inr (.inr (.inr ⟨h, h2, h3, rfl, rfl, rfl⟩))⟩
    · exact ⟨_, _, _, .inr (.inl ⟨h, h2, rfl, rfl, rfl⟩)⟩
  · exact ⟨_, _, _, .inl ⟨h, rfl, rfl, rfl⟩⟩

theorem rk_bad {p id' c rk : Int} {ks t : List (Int × List Nat)} (h : rmIs p ks id' c rk t) (h0 : rF p ks ≠ 0) : c = rF p ks ∧ rk = 0 ∧ t = [] := by
  rcases h with ⟨-, h⟩ | ⟨h, -⟩ | ⟨h, -⟩ | ⟨h, -⟩
  · exact h
  all_goals exact absurd h h0
theorem rk_none {p id' c rk : Int} {ks t : List (Int × List Nat)} (h : rmIs p ks id' c rk t) (h0 : rF p ks = 0) (h1 : ¬ Has ks id') : c = 4 ∧ rk = 0 ∧ t = [] := by
  rcases h with ⟨h, -⟩ | ⟨-, -, h⟩ | ⟨-, h, -⟩ | ⟨-, h, -⟩
  · exact absurd h0 h
  · exact h
  all_goals exact absurd h h1
theorem rk_own {p id' c rk : Int} {ks t : List (Int × List Nat)} (h : rmIs p ks id' c rk t) (h0 : rF p ks = 0) (h1 : Has ks id') (h2 : id' = p) : c = 8 ∧ rk = 0 ∧ t = [] := by
  rcases h with ⟨h, -⟩ | ⟨-, h, -⟩ | ⟨-, -, -, h⟩ | ⟨-, -, h, -⟩
  · exact absurd h0 h
  · exact absurd h1 h
  · exact h
  · exact absurd h2 h
theorem rk_ok {p id' c rk : Int} {ks t : List (Int × List Nat)} (h : rmIs p ks id' c rk t) (h0 : rF p ks = 0) (h1 : Has ks id') (h2 : ¬ id' = p) : c = 0 ∧ rk = p ∧ t = rmv id' ks := by
  rcases h with ⟨h, -⟩ | ⟨-, h, -⟩ | ⟨-, -, h, -⟩ | ⟨-, -, -, h⟩
  · exact absurd h0 h
  · exact absurd h1 h
  · exact absurd h h2
  · exact h
end Go.Proofs.Ytbfdbicddmffnab.W
