/-
  Counters that a window is to take one after the other. No function of the program is named here.
-/
import Derived.Test.YtalaolfcdaaaoaaTcF
namespace Go.Proofs.Ytalaolfcdaaaoaa.M
open Go.RowKit

/-- The window behind the first k of the counters. -/
def taSt (top : Int) (l zs : List Int) : Nat → Int × List Int
  | 0 => (top, l)
  | k + 1 => let s := taSt top l zs k; if tkC s.1 s.2 (zs.getD k 0) = 0 then (tkT s.1 (zs.getD k 0), insZ (tkT s.1 (zs.getD k 0) - 16) (zs.getD k 0) s.2) else s
/-- The places of those of the first k that are taken. -/
def taL (top : Int) (l zs : List Int) : Nat → List Int
  | 0 => []
  | k + 1 => if tkC (taSt top l zs k).1 (taSt top l zs k).2 (zs.getD k 0) = 0 then taL top l zs k ++ [(k : Int)] else taL top l zs k
theorem taL_len (top : Int) (l zs : List Int) : ∀ k, (taL top l zs k).length ≤ k
  | 0 => Nat.le_refl _
  | k + 1 => by
    have := taL_len top l zs k
    unfold taL
    split
    · simp; omega
    · omega
theorem taSt_ok {top : Int} {l : List Int} (h : WOk top l) (zs : List Int) : ∀ k, WOk (taSt top l zs k).1 (taSt top l zs k).2
  | 0 => h
  | k + 1 => by
    have ih := taSt_ok h zs k
    by_cases hc : tkC (taSt top l zs k).1 (taSt top l zs k).2 (zs.getD k 0) = 0
    · rw [taSt]
      simp only [hc, if_true]
      exact ih.take hc
    · rw [taSt]
      simp only [hc, if_false]
      exact ih
theorem taSt_yes {top : Int} {l zs : List Int} {k : Nat} (hk : k < zs.length) (h : tkC (taSt top l zs k).1 (taSt top l zs k).2 zs[k] = 0) : taSt top l zs (k + 1) = (tkT (taSt top l zs k).1 zs[k], insZ (tkT (taSt top l zs k).1 zs[k] - 16) zs[k] (taSt top l zs k).2) ∧ taL top l zs (k + 1) = taL top l zs k ++ [(k : Int)] := by
  have e : zs.getD k 0 = zs[k] := by simp [List.getD, List.getElem?_eq_getElem hk]
  rw [← e] at h ⊢
  exact ⟨by rw [taSt]; simp only [h, if_true], by rw [taL, if_pos h]⟩
theorem taSt_no {top : Int} {l zs : List Int} {k : Nat} (hk : k < zs.length) (h : ¬ tkC (taSt top l zs k).1 (taSt top l zs k).2 zs[k] = 0) : taSt top l zs (k + 1) = taSt top l zs k ∧ taL top l zs (k + 1) = taL top l zs k := by
  have e : zs.getD k 0 = zs[k] := by simp [List.getD, List.getElem?_eq_getElem hk]
  rw [← e] at h
  exact ⟨by rw [taSt]; simp only [h, if_false], by rw [taL, if_neg h]⟩
/-- The answer: code and places. -/
def TaIs (top : Int) (l zs : List Int) (c : Int) (lr : List Int) : Prop :=
  (¬ wF top l = 0 ∧ c = wF top l ∧ lr = []) ∨ (wF top l = 0 ∧ 200 < zs.length ∧ c = 2 ∧ lr = []) ∨ (wF top l = 0 ∧ zs.length ≤ 200 ∧ c = 0 ∧ lr = taL top l zs zs.length)
theorem ta_some (top : Int) (l zs : List Int) : ∃ c lr, TaIs top l zs c lr := by
  by_cases h : wF top l = 0
  · by_cases h2 : 200 < zs.length
    · exact ⟨_, _, .inr (.inl ⟨h, h2, rfl, rfl⟩)⟩
    · exact ⟨_, _, .inr (.inr ⟨h, by omega, rfl, rfl⟩)⟩
  · exact ⟨_, _, .inl ⟨h, rfl, rfl⟩⟩
theorem TaIs.len {top c : Int} {l zs lr : List Int} (h : TaIs top l zs c lr) : lr.length ≤ 200 := by
  rcases h with ⟨-, -, rfl⟩ | ⟨-, -, -, rfl⟩ | ⟨-, h, -, rfl⟩
  · simp
  · simp
  · exact Nat.le_trans (taL_len _ _ _ _) h
end Go.Proofs.Ytalaolfcdaaaoaa.M
