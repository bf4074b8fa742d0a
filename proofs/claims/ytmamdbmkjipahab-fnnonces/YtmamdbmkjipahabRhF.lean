/-
  The head of a letter out of its bytes: plain mathematics, and the first bytes of what is read.
-/
import Derived.Test.YtmamdbmkjipahabEnvF
import Derived.Test.YtmamdbmkjipahabRead
namespace Go.Proofs.Ytmamdbmkjipahab.M
open Go.RowKit

/-- What ReadHead tells of bytes: the code, and the letter's three numbers. -/
def rhIs (l : List Nat) (c rk rs rc : Int) : Prop :=
  (l.length < 11 ∧ c = 2 ∧ rk = 0 ∧ rs = 0 ∧ rc = 0) ∨
  (11 ≤ l.length ∧ l.getD 0 0 ≠ 1 ∧ c = 1 ∧ rk = 0 ∧ rs = 0 ∧ rc = 0) ∨
  (11 ≤ l.length ∧ l.getD 0 0 = 1 ∧ 127 < l.getD 3 0 ∧ c = 3 ∧ rk = 0 ∧ rs = 0 ∧ rc = 0) ∨
  (11 ≤ l.length ∧ l.getD 0 0 = 1 ∧ ¬ 127 < l.getD 3 0 ∧ ¬ hOk (l.getD 1 0 : Nat) (l.getD 2 0 : Nat) (vt l 3 8 : Nat) ∧ c = 3 ∧ rk = 0 ∧ rs = 0 ∧ rc = 0) ∨
  (11 ≤ l.length ∧ l.getD 0 0 = 1 ∧ ¬ 127 < l.getD 3 0 ∧ hOk (l.getD 1 0 : Nat) (l.getD 2 0 : Nat) (vt l 3 8 : Nat) ∧ c = 0 ∧ rk = (l.getD 1 0 : Nat) ∧ rs = (l.getD 2 0 : Nat) ∧ rc = (vt l 3 8 : Nat))
theorem rh_some (l : List Nat) : ∃ c rk rs rc, rhIs l c rk rs rc := by
  by_cases h1 : l.length < 11
  · exact ⟨_, _, _, _, .inl ⟨h1, rfl, rfl, rfl, rfl⟩⟩
  · by_cases h2 : l.getD 0 0 = 1
    · by_cases h3 : 127 < l.getD 3 0
      · exact ⟨_, _, _, _, .inr (.inr (.inl ⟨by omega, h2, h3, rfl, rfl, rfl, rfl⟩))⟩
      · by_cases h4 : hOk (l.getD 1 0 : Nat) (l.getD 2 0 : Nat) (vt l 3 8 : Nat)
        · exact ⟨_, _, _, _, .inr (.inr (.inr (.inr ⟨by omega, h2, h3, h4, rfl, rfl, rfl, rfl⟩)))⟩
        · exact ⟨_, _, _, _, .inr (.inr (.inr (.inl ⟨by omega, h2, h3, h4, rfl, rfl, rfl, rfl⟩)))⟩
    · exact ⟨_, _, _, _, .inr (.inl ⟨by omega, h2, rfl, rfl, rfl, rfl⟩)⟩
theorem rh_top {l : List Nat} {c rk rs rc : Int} (h : rhIs l c rk rs rc) (hn : 11 ≤ l.length) (h0 : l.getD 0 0 = 1) (h3 : 127 < l.getD 3 0) : c = 3 ∧ rk = 0 ∧ rs = 0 ∧ rc = 0 := by
  rcases h with ⟨h, -⟩ | ⟨-, h, -⟩ | ⟨-, -, -, h⟩ | ⟨-, -, h, -⟩ | ⟨-, -, h, -⟩
  · omega
  · exact absurd h0 h
  · exact h
  · exact absurd h3 h
  · exact absurd h3 h
theorem rh_no {l : List Nat} {c rk rs rc : Int} (h : rhIs l c rk rs rc) (hn : 11 ≤ l.length) (h0 : l.getD 0 0 = 1) (h3 : ¬ 127 < l.getD 3 0) (h4 : ¬ hOk (l.getD 1 0 : Nat) (l.getD 2 0 : Nat) (vt l 3 8 : Nat)) : c = 3 ∧ rk = 0 ∧ rs = 0 ∧ rc = 0 := by
  rcases h with ⟨h, -⟩ | ⟨-, h, -⟩ | ⟨-, -, h, -⟩ | ⟨-, -, -, -, h⟩ | ⟨-, -, -, h, -⟩
  · omega
  · exact absurd h0 h
  · exact absurd h h3
  · exact h
  · exact absurd h h4
theorem rh_yes {l : List Nat} {c rk rs rc : Int} (h : rhIs l c rk rs rc) (hn : 11 ≤ l.length) (h0 : l.getD 0 0 = 1) (h3 : ¬ 127 < l.getD 3 0) (h4 : hOk (l.getD 1 0 : Nat) (l.getD 2 0 : Nat) (vt l 3 8 : Nat)) : c = 0 ∧ rk = (l.getD 1 0 : Nat) ∧ rs = (l.getD 2 0 : Nat) ∧ rc = (vt l 3 8 : Nat) := by
  rcases h with ⟨h, -⟩ | ⟨-, h, -⟩ | ⟨-, -, h, -⟩ | ⟨-, -, -, h, -⟩ | ⟨-, -, -, -, h⟩
  · omega
  · exact absurd h0 h
  · exact absurd h h3
  · exact absurd h4 h
  · exact h
theorem rh_many {l : List Nat} {c rk rs rc : Int} (h : rhIs l c rk rs rc) (hn : l.length < 11) : c = 2 ∧ rk = 0 ∧ rs = 0 ∧ rc = 0 := by
  rcases h with ⟨-, h⟩ | ⟨h, -⟩ | ⟨h, -⟩ | ⟨h, -⟩ | ⟨h, -⟩
  · exact h
  all_goals omega
theorem rh_form {l : List Nat} {c rk rs rc : Int} (h : rhIs l c rk rs rc) (hn : 11 ≤ l.length) (h0 : l.getD 0 0 ≠ 1) : c = 1 ∧ rk = 0 ∧ rs = 0 ∧ rc = 0 := by
  rcases h with ⟨h, -⟩ | ⟨-, -, h⟩ | ⟨-, h, -⟩ | ⟨-, h, -⟩ | ⟨-, h, -⟩
  · omega
  · exact h
  · exact absurd h h0
  · exact absurd h h0
  · exact absurd h h0
theorem rh_bad {l : List Nat} {c rk rs rc : Int} (h : rhIs l c rk rs rc) (hc : c ≠ 0) : rk = 0 ∧ rs = 0 ∧ rc = 0 := by
  rcases h with ⟨-, -, h⟩ | ⟨-, -, -, h⟩ | ⟨-, -, -, -, h⟩ | ⟨-, -, -, -, -, h⟩ | ⟨-, -, -, -, h, -⟩
  · exact h
  · exact h
  · exact h
  · exact h
  · exact absurd h hc
/-- The first four bytes of eleven or more. -/
theorem rd_hd4 {w : World} {v : Value} {l : List Nat} (h : Rd w v l) (hn : 11 ≤ l.length) :
    ∃ b o cap, v = .slice (some ⟨b, o, none⟩) l.length cap ∧ l.length ≤ cap ∧ w.cell? ⟨b, o, none⟩ = some (.int .u8 (l.getD 0 0 : Nat)) ∧ w.cell? ⟨b, o + 1, none⟩ = some (.int .u8 (l.getD 1 0 : Nat)) ∧ w.cell? ⟨b, o + 2, none⟩ = some (.int .u8 (l.getD 2 0 : Nat)) ∧ w.cell? ⟨b, o + 3, none⟩ = some (.int .u8 (l.getD 3 0 : Nat)) := by
  obtain ⟨a, cap, rfl, h1, h2, hc⟩ := h
  obtain ⟨b, o, rfl, -⟩ := hc 0 (by omega)
  have q : ∀ i (hi : i < l.length), w.cell? ⟨b, o + i, none⟩ = some (.int .u8 (l.getD i 0 : Nat)) := fun i hi => by
    obtain ⟨b', o', e, hx⟩ := hc i hi
    cases e
    rw [getD_at l i hi]
    exact hx
  exact ⟨b, o, cap, rfl, h1, q 0 (by omega), q 1 (by omega), q 2 (by omega), q 3 (by omega)⟩
end Go.Proofs.Ytmamdbmkjipahab.M
