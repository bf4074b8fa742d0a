/-
  A key of a ring: plain mathematics; variables of three cells.
-/
import Derived.Test.YtbfdbicddmffnabRfF
namespace Go.Proofs.Ytbfdbicddmffnab.M
open Go.RowKit

/-- What FindKey tells: the code, the key's number and its bytes. -/
def fkIs (p : Int) (ks : List (Int × List Nat)) (id' c rk : Int) (l : List Nat) : Prop :=
  (rF p ks ≠ 0 ∧ c = rF p ks ∧ rk = 0 ∧ l = []) ∨ (rF p ks = 0 ∧ ¬ Has ks id' ∧ c = 4 ∧ rk = 0 ∧ l = []) ∨
  (rF p ks = 0 ∧ ∃ i, ∃ h : i < ks.length, (ks[i]).1 = id' ∧ (∀ j (hj : j < ks.length), j < i → (ks[j]).1 ≠ id') ∧ c = 0 ∧ rk = id' ∧ l = (ks[i]).2)
theorem fk_some (p : Int) (ks : List (Int × List Nat)) (id' : Int) : ∃ c rk l, fkIs p ks id' c rk l := by
  by_cases h : rF p ks = 0
  · by_cases h2 : Has ks id'
    · obtain ⟨i, hi, e⟩ := h2
      have : ∃ i, ∃ h : i < ks.length, (ks[i]).1 = id' ∧ ∀ j (hj : j < ks.length), j < i → (ks[j]).1 ≠ id' := by
        induction i using Nat.strongRecOn with
        | ind i ih =>
          by_cases q : ∃ j, ∃ hj : j < ks.length, j < i ∧ (ks[j]).1 = id'
          · obtain ⟨j, hj, hji, hje⟩ := q
            exact ih j hji hj hje
          · exact ⟨i, hi, e, fun j hj hji hje => q ⟨j, hj, hji, hje⟩⟩
      obtain ⟨i, hi, e, hn⟩ := this
      exact ⟨_, _, _, .inr (.inr ⟨h, i, hi, e, hn, rfl, rfl, rfl⟩)⟩
    · exact ⟨_, _, _, .inr (.inl ⟨h, h2, rfl, rfl, rfl⟩)⟩
  · exact ⟨_, _, _, .inl ⟨h, rfl, rfl, rfl⟩⟩
theorem fk_bad {p id' c rk : Int} {ks : List (Int × List Nat)} {l : List Nat} (h : fkIs p ks id' c rk l) (h0 : rF p ks ≠ 0) : c = rF p ks ∧ rk = 0 ∧ l = [] := by
  rcases h with ⟨-, h⟩ | ⟨h, -⟩ | ⟨h, -⟩
  · exact h
  · exact absurd h h0
  · exact absurd h h0
theorem fk_none {p id' c rk : Int} {ks : List (Int × List Nat)} {l : List Nat} (h : fkIs p ks id' c rk l) (h0 : rF p ks = 0) (h1 : ¬ Has ks id') : c = 4 ∧ rk = 0 ∧ l = [] := by
  rcases h with ⟨h, -⟩ | ⟨-, -, h⟩ | ⟨-, i, hi, e, -⟩
  · exact absurd h0 h
  · exact h
  · exact absurd ⟨i, hi, e⟩ h1
theorem fk_found {p id' c rk : Int} {ks : List (Int × List Nat)} {l : List Nat} (h : fkIs p ks id' c rk l) (h0 : rF p ks = 0) (i : Nat) (hi : i < ks.length) (e : (ks[i]).1 = id') (hn : ∀ j (hj : j < ks.length), j < i → (ks[j]).1 ≠ id') : c = 0 ∧ rk = id' ∧ l = (ks[i]).2 := by
  rcases h with ⟨h, -⟩ | ⟨-, h, -⟩ | ⟨-, i', hi', e', hn', h1, h2, h3⟩
  · exact absurd h0 h
  · exact absurd ⟨i, hi, e⟩ h
  · have : i' = i := by
      rcases Nat.lt_trichotomy i' i with q | q | q
      · exact absurd e' (hn i' hi' q)
      · exact q
      · exact absurd e (hn' i hi q)
    subst this
    exact ⟨h1, h2, h3⟩
/-- A ring without a fault: one to three keys of sixteen bytes, rising, the primary among them. -/
theorem rF_parts {p : Int} {ks : List (Int × List Nat)} (h : rF p ks = 0) : 1 ≤ ks.length ∧ ks.length ≤ 3 ∧ (∀ i (hi : i < ks.length), (1 ≤ (ks[i]).1 ∧ (ks[i]).1 ≤ 255) ∧ (ks[i]).2.length = 16) ∧ Rise ks ∧ Has ks p := by
  by_cases h1 : ks.length < 1 ∨ 3 < ks.length
  · rw [rF_many h1] at h; exact absurd h (by decide)
  by_cases h2 : ∀ j (hj : j < ks.length), kF ks[j] = 0
  · by_cases h3 : Rise ks
    · by_cases h4 : Has ks p
      · refine ⟨by omega, by omega, fun i hi => ?_, h3, h4⟩
        have q := h2 i hi
        unfold kF at q
        split at q
        · rename_i r1
          split at q
          · rename_i r2; exact ⟨r1, r2⟩
          · omega
        · omega
      · rw [rF_none h1 h2 h3 h4] at h; exact absurd h (by decide)
    · rw [rF_form h1 h2 h3] at h; exact absurd h (by decide)
  · exfalso
    have q : fk ks ≠ 0 := by
      intro q
      apply h2
      clear h h1 h2
      induction ks with
      | nil => intro j hj; exact absurd hj (Nat.not_lt_zero j)
      | cons k r ih =>
        rw [fk] at q
        by_cases h0 : kF k = 0
        · rw [if_pos h0] at q
          intro j hj
          match j, hj with
          | 0, _ => exact h0
          | j + 1, hj => exact ih q j (by simpa using hj)
        · rw [if_neg h0] at q; exact absurd q h0
    rw [rF, if_neg h1, if_pos q] at h
    exact q h
theorem w3_facts {w' : World} {g : Nat} {x y z : Value} {T : TypeId} (h : w'.heap[g]? = some (.cells #[x, y, z] T)) :
    (w'.cell? ⟨g, 0, none⟩ = some x ∧ w'.cell? ⟨g, 1, none⟩ = some y ∧ w'.cell? ⟨g, 2, none⟩ = some z) ∧ w'.frozen? ⟨g, 0, none⟩ = false ∧ w'.frozen? ⟨g, 1, none⟩ = false ∧ w'.frozen? ⟨g, 2, none⟩ = false :=
  ⟨⟨by rw [cell_of_row w' g 0 _ _ _ h]; rfl, by rw [cell_of_row w' g 1 _ _ _ h]; rfl, by rw [cell_of_row w' g 2 _ _ _ h]; rfl⟩, frozen_of_row w' g 0 _ T h, frozen_of_row w' g 1 _ T h, frozen_of_row w' g 2 _ T h⟩
theorem w3_set {w' : World} {g : Nat} {x y z x' y' z' : Value} {T : TypeId} (h : w'.heap[g]? = some (.cells #[x, y, z] T)) :
    (((w'.setCell ⟨g, 0, none⟩ x').setCell ⟨g, 1, none⟩ y').setCell ⟨g, 2, none⟩ z').heap[g]? = some (.cells #[x', y', z'] T) := by
  have h1 := heap_setCell_same w' g 0 _ T x' h
  have h2 := heap_setCell_same _ g 1 _ T y' h1
  have h3 := heap_setCell_same _ g 2 _ T z' h2
  simpa using h3
theorem w3_below {w w' : World} {g : Nat} {x y z : Value} (hB : Below w.heap.size w w') (hg : w.heap.size ≤ g) : Below w.heap.size w (((w'.setCell ⟨g, 0, none⟩ x).setCell ⟨g, 1, none⟩ y).setCell ⟨g, 2, none⟩ z) :=
  ((hB.setCell (p := ⟨g, 0, none⟩) hg x).setCell (p := ⟨g, 1, none⟩) hg y).setCell (p := ⟨g, 2, none⟩) hg z
end Go.Proofs.Ytbfdbicddmffnab.M
