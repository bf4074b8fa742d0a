/-
  A letter that is sealed: plain mathematics.
-/
import Derived.Test.YtckgjghpfjinfakGreatLetF3
import Derived.Test.YtckgjghpfjinfakGreatLetF
import Derived.Test.YtckgjghpfjinfakGreatAskF
namespace Go.Proofs.YtckgjghpfjinfakGreat.M
open Go.RowKit

/-- What a letter becomes by one key's bytes. -/
def sB (key : List Nat) (k s n : Int) (l : List Nat) : List Nat := headL k.toNat s.toNat n.toNat ++ sld (kf key) (nonceL s.toNat n.toNat) (headL k.toNat s.toNat n.toNat) l
def slIs (p : Int) (ks : List (Int × List Nat)) (k s n : Int) (l : List Nat) (c : Int) (t : List Nat) : Prop :=
  (rF p ks ≠ 0 ∧ c = rF p ks ∧ t = []) ∨ (rF p ks = 0 ∧ lF k s n l.length ≠ 0 ∧ c = lF k s n l.length ∧ t = []) ∨
  (rF p ks = 0 ∧ lF k s n l.length = 0 ∧ ¬ Has ks k ∧ c = 4 ∧ t = []) ∨
  (rF p ks = 0 ∧ lF k s n l.length = 0 ∧ ∃ i, ∃ h : i < ks.length, (ks[i]).1 = k ∧ c = 0 ∧ t = sB (ks[i]).2 k s n l)
theorem sl_some (p : Int) (ks : List (Int × List Nat)) (k s n : Int) (l : List Nat) : ∃ c t, slIs p ks k s n l c t := by
  by_cases h1 : rF p ks = 0
  · by_cases h2 : lF k s n l.length = 0
    · by_cases h3 : Has ks k
      · obtain ⟨i, hi, e⟩ := h3
        exact ⟨_, _, .inr (.inr (.inr ⟨h1, h2, i, hi, e, rfl, rfl⟩))⟩
      · exact ⟨_, _, .inr (.inr (.inl ⟨h1, h2, h3, rfl, rfl⟩))⟩
    · exact ⟨_, _, .inr (.inl ⟨h1, h2, rfl, rfl⟩)⟩
  · exact ⟨_, _, .inl ⟨h1, rfl, rfl⟩⟩
theorem rise_lt3 {ks : List (Int × List Nat)} (h : Rise ks) : ∀ (j i : Nat) (hj : j < ks.length) (hij : i < j), (ks[i]'(Nat.lt_trans hij hj)).1 < (ks[j]).1
  | 0, i, _, hij => absurd hij (Nat.not_lt_zero i)
  | j + 1, i, hj, hij => by
    have h1 := h j hj
    rcases Nat.lt_or_ge i j with q | q
    · have h2 := rise_lt3 h j i (by omega) q
      omega
    · obtain rfl : i = j := by omega
      exact h1
theorem rise_two {p : Int} {ks : List (Int × List Nat)} (h : rF p ks = 0) {i j : Nat} (hi : i < ks.length) (hj : j < ks.length) (e : (ks[i]).1 = (ks[j]).1) : i = j := by
  have hr := (rF_parts h).2.2.2.1
  rcases Nat.lt_trichotomy i j with q | q | q
  · have := rise_lt3 hr j i hj q
    omega
  · exact q
  · have := rise_lt3 hr i j hi q
    omega
variable {p : Int} {ks : List (Int × List Nat)} {l : List Nat} {k s n c : Int} {t : List Nat}
theorem sl_bad (h : slIs p ks k s n l c t) (h0 : rF p ks ≠ 0) : c = rF p ks ∧ t = [] := by
  rcases h with ⟨-, h⟩ | ⟨h, -⟩ | ⟨h, -⟩ | ⟨h, -⟩
  · exact h
  all_goals exact absurd h h0
theorem sl_let (h : slIs p ks k s n l c t) (h0 : rF p ks = 0) (h1 : lF k s n l.length ≠ 0) : c = lF k s n l.length ∧ t = [] := by
  rcases h with ⟨h, -⟩ | ⟨-, -, h⟩ | ⟨-, h, -⟩ | ⟨-, h, -⟩
  · exact absurd h0 h
  · exact h
  all_goals exact absurd h h1
theorem sl_none (h : slIs p ks k s n l c t) (h0 : rF p ks = 0) (h1 : lF k s n l.length = 0) (h2 : ¬ Has ks k) : c = 4 ∧ t = [] := by
  rcases h with ⟨h, -⟩ | ⟨-, h, -⟩ | ⟨-, -, -, h⟩ | ⟨-, -, i, hi, h, -⟩
  · exact absurd h0 h
  · exact absurd h1 h
  · exact h
  · exact absurd ⟨i, hi, h⟩ h2
theorem sl_ok (h : slIs p ks k s n l c t) (h0 : rF p ks = 0) (h1 : lF k s n l.length = 0) (i : Nat) (hi : i < ks.length) (e : (ks[i]).1 = k) : c = 0 ∧ t = sB (ks[i]).2 k s n l := by
  rcases h with ⟨h, -⟩ | ⟨-, h, -⟩ | ⟨-, -, h, -⟩ | ⟨-, -, j, hj, h, h2, h3⟩
  · exact absurd h0 h
  · exact absurd h1 h
  · exact absurd ⟨i, hi, e⟩ h
  · obtain rfl := rise_two h0 hi hj (e.trans h.symm)
    exact ⟨h2, h3⟩
theorem sl_in {k n e p : List Nat} (hk : k.length = 16) (hn : n.length = 12) (he : e.length = 11) (hs : p.length ≤ 600) : slOk k n e p = true := by
  unfold slOk askd
  rw [decide_eq_true (show k.length = 16 ∧ n.length = 12 ∧ e.length ≤ 100 by omega), decide_eq_true hs]
  rfl
end Go.Proofs.YtckgjghpfjinfakGreat.M
