/-
  A letter that is opened: plain mathematics.
-/
import Derived.Test.YtckgjghpfjinfakLetF3
import Derived.Test.YtckgjghpfjinfakRhF
import Derived.Test.YtckgjghpfjinfakAskF
namespace Go.Proofs.Ytckgjghpfjinfak.M
open Go.RowKit

/-- The code of opening what follows the head, by one key's bytes; and the text. -/
def oC (k : List Nat) (hk hs hn : Int) (l : List Nat) : Int := opC k (nonceL hs.toNat hn.toNat) (headL hk.toNat hs.toNat hn.toNat) (l.drop 11)
def oB (k : List Nat) (hk hs hn : Int) (l : List Nat) : List Nat := opB k (nonceL hs.toNat hn.toNat) (headL hk.toNat hs.toNat hn.toNat) (l.drop 11)
/-- What OpenLetter tells, by what ReadHead tells (hc, hk, hs, hn). -/
def olIs (p : Int) (ks : List (Int × List Nat)) (l : List Nat) (hc hk hs hn : Int) (c rk rs rc : Int) (t : List Nat) : Prop :=
  (rF p ks ≠ 0 ∧ c = rF p ks ∧ rk = 0 ∧ rs = 0 ∧ rc = 0 ∧ t = []) ∨
  (rF p ks = 0 ∧ 327 < l.length ∧ c = 2 ∧ rk = 0 ∧ rs = 0 ∧ rc = 0 ∧ t = []) ∨
  (rF p ks = 0 ∧ l.length ≤ 327 ∧ hc ≠ 0 ∧ c = hc ∧ rk = 0 ∧ rs = 0 ∧ rc = 0 ∧ t = []) ∨
  (rF p ks = 0 ∧ l.length ≤ 327 ∧ hc = 0 ∧ ¬ Has ks hk ∧ c = 4 ∧ rk = 0 ∧ rs = 0 ∧ rc = 0 ∧ t = []) ∨
  (rF p ks = 0 ∧ l.length ≤ 327 ∧ hc = 0 ∧ ∃ i, ∃ h : i < ks.length, (ks[i]).1 = hk ∧ oC (ks[i]).2 hk hs hn l ≠ 0 ∧ c = 9 ∧ rk = 0 ∧ rs = 0 ∧ rc = 0 ∧ t = []) ∨
  (rF p ks = 0 ∧ l.length ≤ 327 ∧ hc = 0 ∧ ∃ i, ∃ h : i < ks.length, (ks[i]).1 = hk ∧ oC (ks[i]).2 hk hs hn l = 0 ∧ c = 0 ∧ rk = hk ∧ rs = hs ∧ rc = hn ∧ t = oB (ks[i]).2 hk hs hn l)
theorem ol_some (p : Int) (ks : List (Int × List Nat)) (l : List Nat) (hc hk hs hn : Int) : ∃ c rk rs rc t, olIs p ks l hc hk hs hn c rk rs rc t := by
  by_cases h1 : rF p ks = 0
  · by_cases h2 : 327 < l.length
    · exact ⟨_, _, _, _, _, .inr (.inl ⟨h1, h2, rfl, rfl, rfl, rfl, rfl⟩)⟩
    · by_cases h3 : hc = 0
      · by_cases h4 : Has ks hk
        · obtain ⟨i, hi, e⟩ := h4
          by_cases h5 : oC (ks[i]).2 hk hs hn l = 0
          · exact ⟨_, _, _, _, _, .inr (.inr (.inr (.inr (.inr ⟨h1, by omega, h3, i, hi, e, h5, rfl, rfl, rfl, rfl, rfl⟩))))⟩
          · exact ⟨_, _, _, _, _, .inr (.inr (.inr (.inr (.inl ⟨h1, by omega, h3, i, hi, e, h5, rfl, rfl, rfl, rfl, rfl⟩))))⟩
        · exact ⟨_, _, _, _, _, .inr (.inr (.inr (.inl ⟨h1, by omega, h3, h4, rfl, rfl, rfl, rfl, rfl⟩)))⟩
      · exact ⟨_, _, _, _, _, .inr (.inr (.inl ⟨h1, by omega, h3, rfl, rfl, rfl, rfl, rfl⟩))⟩
  · exact ⟨_, _, _, _, _, .inl ⟨h1, rfl, rfl, rfl, rfl, rfl⟩⟩
theorem rise_lt2 {ks : List (Int × List Nat)} (h : Rise ks) : ∀ (j i : Nat) (hj : j < ks.length) (hij : i < j), (ks[i]'(Nat.lt_trans hij hj)).1 < (ks[j]).1
  | 0, i, _, hij => absurd hij (Nat.not_lt_zero i)
  | j + 1, i, hj, hij => by
    have h1 := h j hj
    rcases Nat.lt_or_ge i j with q | q
    · have h2 := rise_lt2 h j i (by omega) q
      omega
    · obtain rfl : i = j := by omega
      exact h1
theorem rise_one {p : Int} {ks : List (Int × List Nat)} (h : rF p ks = 0) {i j : Nat} (hi : i < ks.length) (hj : j < ks.length) (e : (ks[i]).1 = (ks[j]).1) : i = j := by
  have hr := (rF_parts h).2.2.2.1
  rcases Nat.lt_trichotomy i j with q | q | q
  · have := rise_lt2 hr j i hj q
    omega
  · exact q
  · have := rise_lt2 hr i j hi q
    omega
variable {p : Int} {ks : List (Int × List Nat)} {l : List Nat} {hc hk hs hn c rk rs rc : Int} {t : List Nat}
theorem ol_bad (h : olIs p ks l hc hk hs hn c rk rs rc t) (h0 : rF p ks ≠ 0) : c = rF p ks ∧ rk = 0 ∧ rs = 0 ∧ rc = 0 ∧ t = [] := by
  rcases h with ⟨-, h⟩ | ⟨h, -⟩ | ⟨h, -⟩ | ⟨h, -⟩ | ⟨h, -⟩ | ⟨h, -⟩
  · exact h
  all_goals exact absurd h h0
theorem ol_many (h : olIs p ks l hc hk hs hn c rk rs rc t) (h0 : rF p ks = 0) (h1 : 327 < l.length) : c = 2 ∧ rk = 0 ∧ rs = 0 ∧ rc = 0 ∧ t = [] := by
  rcases h with ⟨h, -⟩ | ⟨-, -, h⟩ | ⟨-, h, -⟩ | ⟨-, h, -⟩ | ⟨-, h, -⟩ | ⟨-, h, -⟩
  · exact absurd h0 h
  · exact h
  all_goals omega
theorem ol_head (h : olIs p ks l hc hk hs hn c rk rs rc t) (h0 : rF p ks = 0) (h1 : l.length ≤ 327) (h2 : hc ≠ 0) : c = hc ∧ rk = 0 ∧ rs = 0 ∧ rc = 0 ∧ t = [] := by
  rcases h with ⟨h, -⟩ | ⟨-, h, -⟩ | ⟨-, -, -, h⟩ | ⟨-, -, h, -⟩ | ⟨-, -, h, -⟩ | ⟨-, -, h, -⟩
  · exact absurd h0 h
  · omega
  · exact h
  all_goals exact absurd h h2
theorem ol_none (h : olIs p ks l 0 hk hs hn c rk rs rc t) (h0 : rF p ks = 0) (h1 : l.length ≤ 327) (h3 : ¬ Has ks hk) : c = 4 ∧ rk = 0 ∧ rs = 0 ∧ rc = 0 ∧ t = [] := by
  rcases h with ⟨h, -⟩ | ⟨-, h, -⟩ | ⟨-, -, h, -⟩ | ⟨-, -, -, -, h⟩ | ⟨-, -, -, i, hi, h, -⟩ | ⟨-, -, -, i, hi, h, -⟩
  · exact absurd h0 h
  · omega
  · exact absurd rfl h
  · exact h
  · exact absurd ⟨i, hi, h⟩ h3
  · exact absurd ⟨i, hi, h⟩ h3
theorem ol_seal (h : olIs p ks l 0 hk hs hn c rk rs rc t) (h0 : rF p ks = 0) (h1 : l.length ≤ 327) (i : Nat) (hi : i < ks.length) (e : (ks[i]).1 = hk) (h4 : oC (ks[i]).2 hk hs hn l ≠ 0) : c = 9 ∧ rk = 0 ∧ rs = 0 ∧ rc = 0 ∧ t = [] := by
  rcases h with ⟨h, -⟩ | ⟨-, h, -⟩ | ⟨-, -, h, -⟩ | ⟨-, -, -, h, -⟩ | ⟨-, -, -, j, hj, h, -, h2⟩ | ⟨-, -, -, j, hj, h, h2, -⟩
  · exact absurd h0 h
  · omega
  · exact absurd rfl h
  · exact absurd ⟨i, hi, e⟩ h
  · exact h2
  · obtain rfl := rise_one h0 hi hj (e.trans h.symm)
    exact absurd h2 h4
theorem ol_ok (h : olIs p ks l 0 hk hs hn c rk rs rc t) (h0 : rF p ks = 0) (h1 : l.length ≤ 327) (i : Nat) (hi : i < ks.length) (e : (ks[i]).1 = hk) (h4 : oC (ks[i]).2 hk hs hn l = 0) : c = 0 ∧ rk = hk ∧ rs = hs ∧ rc = hn ∧ t = oB (ks[i]).2 hk hs hn l := by
  rcases h with ⟨h, -⟩ | ⟨-, h, -⟩ | ⟨-, -, h, -⟩ | ⟨-, -, -, h, -⟩ | ⟨-, -, -, j, hj, h, h2, -⟩ | ⟨-, -, -, j, hj, h, -, h2⟩
  · exact absurd h0 h
  · omega
  · exact absurd rfl h
  · exact absurd ⟨i, hi, e⟩ h
  · obtain rfl := rise_one h0 hi hj (e.trans h.symm)
    exact absurd h4 h2
  · obtain rfl := rise_one h0 hi hj (e.trans h.symm)
    exact h2
/-- What a right head tells is within its bounds. -/
theorem rh_in {l : List Nat} {hk hs hn : Int} (h : rhIs l 0 hk hs hn) : 11 ≤ l.length ∧ hOk hk hs hn := by
  rcases h with ⟨-, h, -⟩ | ⟨-, -, h, -⟩ | ⟨-, -, -, h, -⟩ | ⟨-, -, -, -, h, -⟩ | ⟨h1, -, -, h2, -, rfl, rfl, rfl⟩
  · omega
  · omega
  · omega
  · omega
  · exact ⟨h1, h2⟩
end Go.Proofs.Ytckgjghpfjinfak.M
