/-
  Four turns of rows, and four of columns, are none: plain mathematics. No program is named here.
-/
import Derived.Test.YtaopocjagikacaaEncF
namespace Go.Proofs.Ytaopocjagikacaa.M
open Go.RowKit

theorem shl_gt (l : List Nat) (i : Nat) (hi : i < 16) : gt (shl l) i = gt l ((i + 4 * (i % 4)) % 16) := by
  rw [gt_eq _ i (by rw [shl_len]; exact hi)]
  simp only [shl, List.getElem_map, List.getElem_range]
  rfl
theorem ext_gt (a b : List Nat) (ha : a.length = 16) (hb : b.length = 16) (h : ∀ i, i < 16 → gt a i = gt b i) : a = b := by
  apply List.ext_getElem (by rw [ha, hb])
  intro i h1 h2
  rw [← gt_eq a i h1, ← gt_eq b i h2]
  exact h i (by omega)
theorem sh4 (l : List Nat) (hl : l.length = 16) : shl (shl (shl (shl l))) = l := by
  refine ext_gt _ _ (shl_len _) hl fun i hi => ?_
  rw [shl_gt _ _ hi, shl_gt _ _ (by omega), shl_gt _ _ (by omega), shl_gt _ _ (by omega)]
  congr 1
  omega
/-- One column mixed, as sums. -/
theorem mx_eq (a b c d : Nat) (ha : a < 256) (hb : b < 256) : (((xt a ^^^ (xt b ^^^ b)) ^^^ c) ^^^ d) = ((a ^^^ (((a ^^^ b) ^^^ c) ^^^ d)) ^^^ xt (a ^^^ b)) := by
  have h := mix_sum a b c d 0 (((a ^^^ b) ^^^ c) ^^^ d) rfl ha hb
  rw [Nat.xor_zero, Nat.xor_zero] at h
  exact h.symm
theorem mxl_at (l : List Nat) (y : Byt l) (m k : Nat) (hm : m < 4) (hk : k < 4) :
    gt (mxl l) (4 * m + k) = ((gt l (4 * m + k) ^^^ (((gt l (4 * m) ^^^ gt l (4 * m + 1)) ^^^ gt l (4 * m + 2)) ^^^ gt l (4 * m + 3))) ^^^ xt (gt l (4 * m + k) ^^^ gt l (4 * m + (k + 1) % 4))) := by
  have g := gt_byt l y
  rw [mxl_gt _ _ (by omega), show (4 * m + k) / 4 * 4 = 4 * m by omega, show (4 * m + k + 1) % 4 = (k + 1) % 4 by omega, show (4 * m + k + 2) % 4 = (k + 2) % 4 by omega, show (4 * m + k + 3) % 4 = (k + 3) % 4 by omega, mx_eq _ _ _ _ (g _) (g _)]
  congr 1
  congr 1
  match k, hk with
  | 0, _ => rfl
  | 1, _ => exact (sum_turn _ _ _ _).symm
  | 2, _ => exact ((sum_turn _ _ _ _).trans (sum_turn _ _ _ _)).symm
  | 3, _ => exact (((sum_turn _ _ _ _).trans (sum_turn _ _ _ _)).trans (sum_turn _ _ _ _)).symm
theorem xt0 : xt 0 = 0 := by decide
/-- The sum of a column stays. -/
theorem sum_mix (a b c d : Nat) (ha : a < 256) (hb : b < 256) (hc : c < 256) (hd : d < 256) :
    ((((((a ^^^ (((a ^^^ b) ^^^ c) ^^^ d)) ^^^ xt (a ^^^ b)) ^^^ ((b ^^^ (((a ^^^ b) ^^^ c) ^^^ d)) ^^^ xt (b ^^^ c))) ^^^ ((c ^^^ (((a ^^^ b) ^^^ c) ^^^ d)) ^^^ xt (c ^^^ d))) ^^^ ((d ^^^ (((a ^^^ b) ^^^ c) ^^^ d)) ^^^ xt (d ^^^ a)))) = (((a ^^^ b) ^^^ c) ^^^ d) := by
  rw [xt_xor a b ha hb, xt_xor b c hb hc, xt_xor c d hc hd, xt_xor d a hd ha]
  apply Nat.eq_of_testBit_eq
  intro n
  simp only [Nat.testBit_xor]
  generalize a.testBit n = x1
  generalize b.testBit n = x2
  generalize c.testBit n = x3
  generalize d.testBit n = x4
  generalize (xt a).testBit n = x5
  generalize (xt b).testBit n = x6
  generalize (xt c).testBit n = x7
  generalize (xt d).testBit n = x8
  cases x1 <;> cases x2 <;> cases x3 <;> cases x4 <;> cases x5 <;> cases x6 <;> cases x7 <;> cases x8 <;> rfl
/-- Twice mixed: a byte and four times the sum of it and the one across. -/
theorem twice (a b c s : Nat) (ha : a < 256) (hb : b < 256) (hc : c < 256) :
    ((((a ^^^ s) ^^^ xt (a ^^^ b)) ^^^ s) ^^^ xt (((a ^^^ s) ^^^ xt (a ^^^ b)) ^^^ ((b ^^^ s) ^^^ xt (b ^^^ c)))) = (a ^^^ xt (xt (a ^^^ c))) := by
  have e : (((a ^^^ s) ^^^ xt (a ^^^ b)) ^^^ ((b ^^^ s) ^^^ xt (b ^^^ c))) = (a ^^^ b) ^^^ xt (a ^^^ c) := by
    rw [xt_xor a b ha hb, xt_xor b c hb hc, xt_xor a c ha hc]
    apply Nat.eq_of_testBit_eq
    intro n
    simp only [Nat.testBit_xor]
    generalize a.testBit n = x1
    generalize b.testBit n = x2
    generalize s.testBit n = x3
    generalize (xt a).testBit n = x5
    generalize (xt b).testBit n = x6
    generalize (xt c).testBit n = x7
    cases x1 <;> cases x2 <;> cases x3 <;> cases x5 <;> cases x6 <;> cases x7 <;> rfl
  rw [e, xt_xor (a ^^^ b) _ (xor_lt _ _ ha hb) (xt_lt _)]
  generalize xt (a ^^^ b) = p
  generalize xt (xt (a ^^^ c)) = q
  apply Nat.eq_of_testBit_eq
  intro n
  simp only [Nat.testBit_xor]
  generalize a.testBit n = x1
  generalize s.testBit n = x3
  generalize p.testBit n = x5
  generalize q.testBit n = x6
  cases x1 <;> cases x3 <;> cases x5 <;> cases x6 <;> rfl
theorem mx2_at (l : List Nat) (y : Byt l) (m k : Nat) (hm : m < 4) (hk : k < 4) :
    gt (mxl (mxl l)) (4 * m + k) = gt l (4 * m + k) ^^^ xt (xt (gt l (4 * m + k) ^^^ gt l (4 * m + (k + 2) % 4))) := by
  have g := gt_byt l y
  have h0 := mxl_at l y m 0 hm (by omega)
  have h1 := mxl_at l y m 1 hm (by omega)
  have h2 := mxl_at l y m 2 hm (by omega)
  have h3 := mxl_at l y m 3 hm (by omega)
  have hs : (((gt (mxl l) (4 * m) ^^^ gt (mxl l) (4 * m + 1)) ^^^ gt (mxl l) (4 * m + 2)) ^^^ gt (mxl l) (4 * m + 3)) = (((gt l (4 * m) ^^^ gt l (4 * m + 1)) ^^^ gt l (4 * m + 2)) ^^^ gt l (4 * m + 3)) := by
    rw [show gt (mxl l) (4 * m) = gt (mxl l) (4 * m + 0) from rfl, h0, h1, h2, h3]
    exact sum_mix _ _ _ _ (g _) (g _) (g _) (g _)
  rw [mxl_at (mxl l) (mxl_byt l y) m k hm hk, hs, mxl_at l y m k hm hk, mxl_at l y m ((k + 1) % 4) hm (by omega)]
  rw [show ((k + 1) % 4 + 1) % 4 = (k + 2) % 4 by omega]
  exact twice _ _ _ _ (g _) (g _) (g _)
theorem mx4 (l : List Nat) (hl : l.length = 16) (y : Byt l) : mxl (mxl (mxl (mxl l))) = l := by
  have g := gt_byt l y
  refine ext_gt _ _ (mxl_len _) hl fun i hi => ?_
  have e : i = 4 * (i / 4) + i % 4 := by omega
  rw [e]
  have hm : i / 4 < 4 := by omega
  have hk : i % 4 < 4 := by omega
  generalize i / 4 = m at *
  generalize i % 4 = k at *
  rw [mx2_at (mxl (mxl l)) (mxl_byt _ (mxl_byt l y)) m k hm hk, mx2_at l y m k hm hk, mx2_at l y m ((k + 2) % 4) hm (by omega), show ((k + 2) % 4 + 2) % 4 = k by omega]
  have ga := g (4 * m + k)
  have gb := g (4 * m + (k + 2) % 4)
  generalize gt l (4 * m + k) = a at *
  generalize gt l (4 * m + (k + 2) % 4) = b at *
  rw [Nat.xor_comm b a]
  generalize hq : xt (xt (a ^^^ b)) = q
  have f : (a ^^^ q) ^^^ (b ^^^ q) = a ^^^ b := by
    apply Nat.eq_of_testBit_eq
    intro n
    simp only [Nat.testBit_xor]
    cases a.testBit n <;> cases b.testBit n <;> cases q.testBit n <;> rfl
  rw [f, hq, Nat.xor_assoc, Nat.xor_self, Nat.xor_zero]
/-- k turns. -/
def itn (f : List Nat → List Nat) (d : List Nat) : Nat → List Nat
  | 0 => d
  | k + 1 => f (itn f d k)
theorem itn_len (f : List Nat → List Nat) (hf : ∀ l, (f l).length = 16) (d : List Nat) (hd : d.length = 16) : ∀ k, (itn f d k).length = 16
  | 0 => hd
  | _ + 1 => hf _
theorem itn_byt (f : List Nat → List Nat) (hf : ∀ l, Byt l → Byt (f l)) (d : List Nat) (hd : Byt d) : ∀ k, Byt (itn f d k)
  | 0 => hd
  | k + 1 => hf _ (itn_byt f hf d hd k)
end Go.Proofs.Ytaopocjagikacaa.M
