/-
  A block by a key, over lists of bytes: plain mathematics. No program is named here.
-/
import Derived.Test.YtckgjghpfjinfakGreatKeysF
namespace Go.Proofs.YtckgjghpfjinfakGreat.M
open Go.RowKit

theorem gt_set_same (l : List Nat) (k x : Nat) (h : k < l.length) : gt (l.set k x) k = x := by
  rw [gt_eq _ k (by rw [List.length_set]; exact h)]
  simp
/-- Round key r. -/
def rkl (F : Nat → Nat) (r : Nat) : List Nat := (List.range 16).map fun i => F (16 * r + i)
theorem rkl_len (F : Nat → Nat) (r : Nat) : (rkl F r).length = 16 := by simp [rkl]
theorem rkl_gt (F : Nat → Nat) (r i : Nat) (h : i < 16) : gt (rkl F r) i = F (16 * r + i) := by
  rw [gt_eq _ i (by rw [rkl_len]; exact h)]
  simp [rkl]
theorem rkl_byt (F : Nat → Nat) (h : ∀ j, F j < 256) (r : Nat) : Byt (rkl F r) := by
  intro x hx
  obtain ⟨i, _, rfl⟩ := List.mem_map.1 hx
  exact h _
/-- The block behind round r. -/
def stt (F : Nat → Nat) (b : List Nat) : Nat → List Nat
  | 0 => xl b (rkl F 0)
  | r + 1 => if r + 1 < 10 then xl (mxl (shl (sbl (stt F b r)))) (rkl F (r + 1)) else xl (shl (sbl (stt F b r))) (rkl F (r + 1))
theorem stt_len (F : Nat → Nat) (b : List Nat) (hb : b.length = 16) : ∀ r, (stt F b r).length = 16
  | 0 => by rw [stt, xl_len, hb]
  | r + 1 => by
    rw [stt]
    split
    · rw [xl_len, mxl_len]
    · rw [xl_len, shl_len]
theorem xl_byt (a b : List Nat) (ha : Byt a) (hb : Byt b) : Byt (xl a b) := by
  intro x hx
  obtain ⟨i, _, rfl⟩ := List.mem_map.1 hx
  exact xor_lt _ _ (gt_byt a ha i) (gt_byt b hb i)
theorem sbl_byt (l : List Nat) (h : Byt l) : Byt (sbl l) := by
  intro x hx
  obtain ⟨i, hi, rfl⟩ := List.mem_map.1 hx
  exact sbx_lt _ (h i hi)
theorem shl_byt (l : List Nat) (h : Byt l) : Byt (shl l) := by
  intro x hx
  obtain ⟨i, _, rfl⟩ := List.mem_map.1 hx
  exact gt_byt l h _
theorem mxl_byt (l : List Nat) (h : Byt l) : Byt (mxl l) := by
  intro x hx
  obtain ⟨i, _, rfl⟩ := List.mem_map.1 hx
  have g := gt_byt l h
  exact xor_lt _ _ (xor_lt _ _ (xor_lt _ _ (xt_lt _) (xor_lt _ _ (xt_lt _) (g _))) (g _)) (g _)
theorem stt_byt (F : Nat → Nat) (hF : ∀ j, F j < 256) (b : List Nat) (hb : Byt b) : ∀ r, Byt (stt F b r)
  | 0 => xl_byt _ _ hb (rkl_byt F hF 0)
  | r + 1 => by
    have ih := stt_byt F hF b hb r
    rw [stt]
    split
    · exact xl_byt _ _ (mxl_byt _ (shl_byt _ (sbl_byt _ ih))) (rkl_byt F hF _)
    · exact xl_byt _ _ (shl_byt _ (sbl_byt _ ih)) (rkl_byt F hF _)
/-- What the cipher makes of a block. -/
def enc (F : Nat → Nat) (b : List Nat) : List Nat := stt F b 10
theorem xl_gt (a b : List Nat) (i : Nat) (ha : i < a.length) : gt (xl a b) i = gt a i ^^^ gt b i := by
  rw [gt_eq _ i (by rw [xl_len]; exact ha)]
  simp [xl, gt]
theorem shs_gt (l : List Nat) (hl : l.length = 16) (i : Nat) (hi : i < 16) : gt (shl (sbl l)) i = sbx (gt l ((i + 4 * (i % 4)) % 16)) := by
  rw [gt_eq _ i (by rw [shl_len]; exact hi)]
  simp only [shl, List.getElem_map, List.getElem_range]
  have h : (i + 4 * (i % 4)) % 16 < l.length := by omega
  show gt (sbl l) _ = _
  rw [gt_eq (sbl l) _ (by rw [sbl_len]; exact h), gt_eq l _ h]
  simp [sbl]
/-- A column's byte mixed, as the sum of all four of them and twice two of them. -/
theorem mix_sum (g0 g1 g2 g3 k s : Nat) (hs : s = ((g0 ^^^ g1) ^^^ g2) ^^^ g3) (h0 : g0 < 256) (h1 : g1 < 256) :
    (((g0 ^^^ k) ^^^ s) ^^^ xt (g0 ^^^ g1)) = ((((xt g0 ^^^ (xt g1 ^^^ g1)) ^^^ g2) ^^^ g3) ^^^ k) := by
  rw [hs, xt_xor g0 g1 h0 h1]
  apply Nat.eq_of_testBit_eq
  intro n
  simp only [Nat.testBit_xor]
  generalize g0.testBit n = a
  generalize g1.testBit n = b
  generalize g2.testBit n = c
  generalize g3.testBit n = d
  generalize k.testBit n = e
  generalize (xt g0).testBit n = f
  generalize (xt g1).testBit n = g
  cases a <;> cases b <;> cases c <;> cases d <;> cases e <;> cases f <;> cases g <;> rfl
theorem sum_turn (a b c d : Nat) : (((a ^^^ b) ^^^ c) ^^^ d) = (((b ^^^ c) ^^^ d) ^^^ a) := by
  rw [Nat.xor_assoc, Nat.xor_assoc, Nat.xor_comm a, ← Nat.xor_assoc]
theorem mxl_gt (l : List Nat) (i : Nat) (hi : i < 16) : gt (mxl l) i = ((xt (gt l i) ^^^ (xt (gt l (i / 4 * 4 + (i + 1) % 4)) ^^^ gt l (i / 4 * 4 + (i + 1) % 4))) ^^^ gt l (i / 4 * 4 + (i + 2) % 4)) ^^^ gt l (i / 4 * 4 + (i + 3) % 4) := by
  rw [gt_eq _ i (by rw [mxl_len]; exact hi)]
  simp only [mxl, List.getElem_map, List.getElem_range, mxb]
  unfold gt
  rw [show i / 4 * 4 + (i + 0) % 4 = i by omega]
/-- Byte 4m + k behind a round that mixes. -/
theorem stt_mix (F : Nat → Nat) (b Y : List Nat) (n m k : Nat) (hn : n + 1 < 10) (hY : Y = shl (sbl (stt F b n))) (y : Byt Y) (hm : m < 4) (hk : k < 4) :
    gt (stt F b (n + 1)) (4 * m + k) = (((gt Y (4 * m + k) ^^^ F (16 * (n + 1) + (4 * m + k))) ^^^ (((gt Y (4 * m) ^^^ gt Y (4 * m + 1)) ^^^ gt Y (4 * m + 2)) ^^^ gt Y (4 * m + 3))) ^^^ xt (gt Y (4 * m + k) ^^^ gt Y (4 * m + (k + 1) % 4))) := by
  have g := gt_byt Y y
  rw [stt, if_pos hn, ← hY, xl_gt _ _ _ (by rw [mxl_len]; omega), rkl_gt _ _ _ (by omega), mxl_gt _ _ (by omega)]
  rw [show (4 * m + k) / 4 * 4 = 4 * m by omega, show (4 * m + k + 1) % 4 = (k + 1) % 4 by omega, show (4 * m + k + 2) % 4 = (k + 2) % 4 by omega, show (4 * m + k + 3) % 4 = (k + 3) % 4 by omega]
  refine (mix_sum _ _ _ _ _ _ ?_ (g _) (g _)).symm
  match k, hk with
  | 0, _ => rfl
  | 1, _ => exact sum_turn _ _ _ _
  | 2, _ => exact (sum_turn _ _ _ _).trans (sum_turn _ _ _ _)
  | 3, _ => exact ((sum_turn _ _ _ _).trans (sum_turn _ _ _ _)).trans (sum_turn _ _ _ _)
theorem stt_last (F : Nat → Nat) (b Y : List Nat) (n i : Nat) (hn : ¬ n + 1 < 10) (hY : Y = shl (sbl (stt F b n))) (hi : i < 16) :
    gt (stt F b (n + 1)) i = gt Y i ^^^ F (16 * (n + 1) + i) := by
  rw [stt, if_neg hn, ← hY, xl_gt _ _ _ (by rw [hY, shl_len]; exact hi), rkl_gt _ _ _ hi]
/-- Twice a byte, as the model reckons it. -/
theorem dbl_fin : ∀ a : Fin 256, (a.val * 2 % 256) ^^^ (a.val / 128 * 27) = xt a.val := by decide +kernel
end Go.Proofs.YtckgjghpfjinfakGreat.M
