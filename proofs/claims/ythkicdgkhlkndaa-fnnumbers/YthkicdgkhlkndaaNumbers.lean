/-
  Numbers are read back from their bytes; xor twice is nothing: plain mathematics. No program is named here.
-/
import Derived.Test.YthkicdgkhlkndaaPack
import Derived.Test.YthkicdgkhlkndaaRead
import Derived.Test.YthkicdgkhlkndaaSxWalks
namespace Go.Proofs.Ythkicdgkhlkndaa.M
open Go.RowKit

theorem vt_pack (m t : Nat) (hm : m < 256 ^ t) : ∀ k, k ≤ t → vt (packL m t) 0 k = m / 256 ^ (t - k)
  | 0, _ => by rw [Nat.sub_zero, Nat.div_eq_of_lt hm]; rfl
  | k + 1, h => by
    have ih := vt_pack m t hm k (by omega)
    have hk : k < (packL m t).length := by rw [packL_len]; omega
    rw [vt, ih, Nat.zero_add, getD_at _ k hk, packL_at, show t - 1 - k = t - (k + 1) by omega]
    rw [show t - k = t - (k + 1) + 1 by omega, ← quot_step]
    omega
theorem vt_div (d : List Nat) (y : Byt d) (b : Nat) : ∀ j k, vt d b (k + j) / 256 ^ j = vt d b k
  | 0, k => by simp
  | j + 1, k => by
    have ih := vt_div d y b j k
    have hb := getD_lt d y (b + (k + j))
    rw [show k + (j + 1) = (k + j) + 1 by omega, vt, Nat.pow_succ, Nat.mul_comm (256 ^ j), ← Nat.div_div_eq_div_mul]
    rw [show (vt d b (k + j) * 256 + d.getD (b + (k + j)) 0) / 256 = vt d b (k + j) by omega]
    exact ih
theorem pack_vt (d : List Nat) (y : Byt d) (b t : Nat) (h : b + t ≤ d.length) : packL (vt d b t) t = (d.drop b).take t := by
  apply List.ext_getElem
  · rw [packL_len]; simp; omega
  · intro i h1 h2
    rw [packL_len] at h1
    rw [packL_at, List.getElem_take, List.getElem_drop]
    have e := vt_div d y b (t - 1 - i) (i + 1)
    rw [show i + 1 + (t - 1 - i) = t by omega] at e
    have hb := y.at (b + i) (by omega)
    rw [e, vt, getD_at d (b + i) (by omega)]
    omega
theorem pow8 : (256 : Nat) ^ 8 = 18446744073709551616 := by decide
set_option maxRecDepth 100000 in
/-- What was packed is read back. -/
theorem pack_read (n s : Int) (hn : n < 9223372036854775808) (h : packC n s = 0) :
    ((packB n s).length : Int) = s ∧ rdC (packB n s) 0 s = 0 ∧ rdV (packB n s) 0 s = n := by
  have hk : packOk n s = true := by
    unfold packC at h
    split at h
    · assumption
    · omega
  have hk' := hk
  simp only [packOk, decide_eq_true_eq] at hk
  obtain ⟨t, rfl⟩ : ∃ t : Nat, s = t := ⟨s.toNat, by omega⟩
  obtain ⟨m, rfl⟩ : ∃ t : Nat, n = t := ⟨n.toNat, by omega⟩
  have hm : m < 256 ^ t := by have q := hk.2.2; rw [Int.toNat_natCast] at q; exact_mod_cast q
  have e : packB (m : Int) (t : Int) = packL m t := by unfold packB; rw [if_pos hk', Int.toNat_natCast, Int.toNat_natCast]
  rw [e, packL_len]
  have ok : rdOk (packL m t) 0 (t : Int) = true := by simp only [rdOk, decide_eq_true_eq, packL_len]; omega
  have nf : ¬ ((t : Int) = 8 ∧ 127 < (packL m t).getD (0 : Int).toNat 0) := by
    intro q
    have t8 : t = 8 := by omega
    subst t8
    have q2 := q.2
    rw [Int.toNat_zero, getD_at _ 0 (by rw [packL_len]; omega), packL_at, show 8 - 1 - 0 = 7 by omega, pow256.2.1] at q2
    omega
  refine ⟨rfl, ?_, ?_⟩
  · unfold rdC; rw [if_pos ok, if_neg nf]
  · unfold rdV; rw [if_pos ok, if_neg nf, Int.toNat_zero, Int.toNat_natCast, vt_pack m t hm t (Nat.le_refl _), Nat.sub_self, Nat.pow_zero, Nat.div_one]
set_option maxRecDepth 100000 in
/-- What was read is packed again. -/
theorem read_pack (d : List Nat) (y : Byt d) (a s : Int) (h : rdC d a s = 0) :
    0 ≤ a ∧ 1 ≤ s ∧ s ≤ 8 ∧ a + s ≤ d.length ∧ 0 ≤ rdV d a s ∧ rdV d a s < 9223372036854775808 ∧ packC (rdV d a s) s = 0 ∧ packB (rdV d a s) s = (d.drop a.toNat).take s.toNat := by
  have ok : rdOk d a s = true := by
    unfold rdC at h
    split at h
    · assumption
    · omega
  have nf : ¬ (s = 8 ∧ 127 < d.getD a.toNat 0) := by
    intro q
    unfold rdC at h
    rw [if_pos ok, if_pos q] at h
    omega
  have e : rdV d a s = (vt d a.toNat s.toNat : Nat) := by unfold rdV; rw [if_pos ok, if_neg nf]
  simp only [rdOk, decide_eq_true_eq] at ok
  obtain ⟨t, rfl⟩ : ∃ t : Nat, s = t := ⟨s.toNat, by omega⟩
  obtain ⟨b, rfl⟩ : ∃ t : Nat, a = t := ⟨a.toNat, by omega⟩
  rw [Int.toNat_natCast, Int.toNat_natCast] at *
  rw [e]
  have v1 := vt_lt d y b t
  have v2 := vt_fits d y b t (by omega) (fun q => nf ⟨by omega, q.2⟩)
  have pk : packOk ((vt d b t : Nat) : Int) (t : Int) = true := by
    simp only [packOk, decide_eq_true_eq, Int.toNat_natCast]
    refine ⟨by omega, by omega, ?_⟩
    exact_mod_cast v1
  refine ⟨by omega, by omega, by omega, by omega, by omega, by omega, ?_, ?_⟩
  · unfold packC; rw [if_pos pk]
  · unfold packB; rw [if_pos pk, Int.toNat_natCast, Int.toNat_natCast, pack_vt d y b t (by omega)]
theorem xl_twice (a b : List Nat) (h : a.length = b.length) : xl (xl a b) b = a := by
  apply List.ext_getElem
  · rw [xl_len, xl_len]
  · intro i h1 h2
    have hb : i < b.length := by omega
    have hx : i < (xl a b).length := by rw [xl_len]; exact h2
    rw [xl_at (xl a b) b i h1 hx hb, xl_at a b i hx h2 hb, Nat.xor_assoc, Nat.xor_self, Nat.xor_zero]
theorem xl_byt (a b : List Nat) (ya : Byt a) (yb : Byt b) (h : a.length = b.length) : Byt (xl a b) := by
  intro x hx
  obtain ⟨i, hi, rfl⟩ := List.getElem_of_mem hx
  have h1 : i < a.length := by rw [xl_len] at hi; exact hi
  rw [xl_at a b i hi h1 (by omega)]
  exact xor_lt _ _ (ya.at i h1) (yb.at i (by omega))
end Go.Proofs.Ythkicdgkhlkndaa.M
namespace Go.Proofs.Ythkicdgkhlkndaa.W
open Go.RowKit Go.Proofs.Ythkicdgkhlkndaa.M
/-- Xor twice is nothing. -/
theorem xor_twice (a b : List Nat) (ya : Byt a) (yb : Byt b) (h : xorC a b = 0) : Byt (xorB a b) ∧ (xorB a b).length = a.length ∧ xorB (xorB a b) b = a := by
  have h1 : ¬ 800 < a.length := by intro q; unfold xorC at h; rw [if_pos q] at h; omega
  have h2 : a.length = b.length := by
    unfold xorC at h
    rw [if_neg h1] at h
    split at h
    · assumption
    · omega
  have e : xorB a b = xl a b := by unfold xorB; rw [if_neg h1, if_pos h2]
  rw [e]
  refine ⟨xl_byt a b ya yb h2, xl_len a b, ?_⟩
  unfold xorB
  rw [xl_len, if_neg h1, if_pos h2, xl_twice a b h2]
end Go.Proofs.Ythkicdgkhlkndaa.W
