/-
  Messages together, as bytes. Plain mathematics.
-/
import Derived.Test.YtifgcffifffdnamEncmW
import Derived.Test.YtifgcffifffdnamMsL
namespace Go.Proofs.Ytifgcffifffdnam.W
open Go.RowKit
open Go.Proofs.Ytifgcffifffdnam.M

/-- One message behind its length. -/
def oneB (m : Msg) : List Nat := [(eB m).length] ++ eB m
/-- The first j messages, each one behind its length. -/
def allB (ms : List Msg) (j : Nat) : List Nat := [ms.length] ++ (ms.take j).flatMap oneB
theorem allB_zero (ms : List Msg) : allB ms 0 = [ms.length] := by simp [allB]
theorem allB_succ (ms : List Msg) (j : Nat) (h : j < ms.length) : allB ms (j + 1) = (allB ms j ++ [(eB ms[j]).length]) ++ eB ms[j] := by
  unfold allB
  rw [List.take_succ_eq_append_getElem h, List.flatMap_append]
  simp [oneB]
theorem eB_len {m : Msg} (hc : mF m 0) : (eB m).length ≤ 19 := by
  rcases ok_cases hc with ⟨s, n, e, h1, h2, h3⟩ | ⟨s, e, h1, h3⟩ | ⟨s, n, e, h1, h2, h3⟩ | ⟨cn, ci, cs, cm, e, h1, h2, h4, h5, h3⟩ | ⟨op, id', e, h0, h1, h2, h4, h5, h3⟩ <;> rw [h3]
  · simp [eP, packL_len]
  · simp [eA, packL_len]
  · simp [eP, packL_len]
  · simp [eC, packL_len]
  · simp [eK]; omega
theorem allB_len (ms : List Msg) (hc : ∀ i (h : i < ms.length), mF ms[i] 0) : ∀ j, j ≤ ms.length → (allB ms j).length ≤ 1 + 20 * j
  | 0, _ => by simp [allB]
  | j + 1, h => by
    have ih := allB_len ms hc j (by omega)
    have := eB_len (hc j (by omega))
    rw [allB_succ ms j (by omega), List.length_append, List.length_append]
    simp; omega
/-- The code that EncodeMessages tells: too many; the first fault; none. -/
def emsC (ms : List Msg) (c : Int) : Prop := (12 < ms.length ∧ c = 2) ∨ (ms.length ≤ 12 ∧ ∃ i, ∃ h : i < ms.length, (∀ j (hj : j < ms.length), j < i → mF ms[j] 0) ∧ mF ms[i] c ∧ c ≠ 0) ∨ (ms.length ≤ 12 ∧ (∀ j (hj : j < ms.length), mF ms[j] 0) ∧ c = 0)
theorem mF_unique {m : Msg} {c d : Int} (h : mF m c) (k : mF m d) : c = d := by
  rcases h with ⟨a, rfl⟩ | ⟨a, b, rfl⟩ | ⟨a, b, e, rfl⟩ | ⟨a, b, e, rfl⟩ <;> rcases k with ⟨a', rfl⟩ | ⟨a', b', rfl⟩ | ⟨a', b', e', rfl⟩ | ⟨a', b', e', rfl⟩ <;> first | rfl | exact absurd a a' | exact absurd a' a | exact absurd b b' | exact absurd b' b | exact absurd e e' | exact absurd e' e
theorem first_fault (ms : List Msg) : ∀ n, n ≤ ms.length → (∀ j (hj : j < ms.length), j < n → mF ms[j] 0) ∨ ∃ i, ∃ h : i < ms.length, i < n ∧ (∀ j (hj : j < ms.length), j < i → mF ms[j] 0) ∧ ∃ c, mF ms[i] c ∧ c ≠ 0
  | 0, _ => .inl fun j _ h => absurd h (Nat.not_lt_zero j)
  | n + 1, h => by
    rcases first_fault ms n (by omega) with q | ⟨i, hi, q1, q2, q3⟩
    · obtain ⟨c, hc⟩ := mF_some (ms[n]'(by omega))
      by_cases e : c = 0
      · subst e
        refine .inl fun j hj hlt => ?_
        rcases Nat.lt_or_ge j n with z | z
        · exact q j hj z
        · obtain rfl : j = n := by omega
          exact hc
      · exact .inr ⟨n, by omega, by omega, fun j hj hlt => q j hj hlt, c, hc, e⟩
    · exact .inr ⟨i, hi, by omega, q2, q3⟩
theorem emsC_some (ms : List Msg) : ∃ c, emsC ms c := by
  by_cases h : ms.length ≤ 12
  · rcases first_fault ms ms.length (Nat.le_refl _) with q | ⟨i, hi, -, q2, c, q3, q4⟩
    · exact ⟨0, .inr (.inr ⟨h, fun j hj => q j hj hj, rfl⟩)⟩
    · exact ⟨c, .inr (.inl ⟨h, i, hi, q2, q3, q4⟩)⟩
  · exact ⟨2, .inl ⟨by omega, rfl⟩⟩
/-- The bytes that EncodeMessages tells with this code. -/
def emsL (ms : List Msg) (c : Int) : List Nat := if c = 0 then allB ms ms.length else []
theorem emsL_len {ms : List Msg} {c : Int} (h : emsC ms c) : (emsL ms c).length ≤ 300 := by
  unfold emsL
  split
  · rename_i e
    subst e
    rcases h with ⟨-, e⟩ | ⟨-, i, hi, -, -, e⟩ | ⟨h1, h2, -⟩
    · cases e
    · exact absurd rfl e
    · have := allB_len ms h2 ms.length (Nat.le_refl _)
      omega
  · simp
/-- Where a message has a fault and none ahead of it has one, that is the code. -/
theorem emsC_at {ms : List Msg} {c d : Int} (h : emsC ms c) (hn : ms.length ≤ 12) (i : Nat) (hi : i < ms.length) (h0 : ∀ j (hj : j < ms.length), j < i → mF ms[j] 0) (hd : mF ms[i] d) (hne : d ≠ 0) : c = d := by
  rcases h with ⟨q, -⟩ | ⟨-, k, hk, q1, q2, q3⟩ | ⟨-, q, -⟩
  · omega
  · rcases Nat.lt_trichotomy i k with z | z | z
    · exact absurd (mF_unique hd (q1 i hi z)) hne
    · subst z; exact mF_unique q2 hd
    · exact absurd (mF_unique q2 (h0 k hk z)) q3
  · exact absurd (mF_unique hd (q i hi)) hne
theorem emsC_ok {ms : List Msg} {c : Int} (h : emsC ms c) (hn : ms.length ≤ 12) (h0 : ∀ j (hj : j < ms.length), mF ms[j] 0) : c = 0 := by
  rcases h with ⟨q, -⟩ | ⟨-, k, hk, q1, q2, q3⟩ | ⟨-, -, e⟩
  · omega
  · exact absurd (mF_unique q2 (h0 k hk)) q3
  · exact e
end Go.Proofs.Ytifgcffifffdnam.W
