/-
  By one key different blocks become different ones: plain mathematics. No program is named here.
-/
import Derived.Test.YtaopocjagikacaaRowsF
namespace Go.Proofs.Ytaopocjagikacaa.M
open Go.RowKit

theorem sbx_one_fin : ∀ a b : Fin 256, sbx a.val = sbx b.val → a = b := by decide +kernel
theorem sbx_one (a b : Nat) (ha : a < 256) (hb : b < 256) (h : sbx a = sbx b) : a = b :=
  congrArg Fin.val (sbx_one_fin ⟨a, ha⟩ ⟨b, hb⟩ h)
theorem sbl_gt (l : List Nat) (i : Nat) (hi : i < l.length) : gt (sbl l) i = sbx (gt l i) := by
  rw [gt_eq l i hi, gt_eq (sbl l) i (by rw [sbl_len]; exact hi)]
  simp [sbl]
theorem sbl_one (a b : List Nat) (ha : a.length = 16) (hb : b.length = 16) (ya : Byt a) (yb : Byt b) (h : sbl a = sbl b) : a = b := by
  refine ext_gt a b ha hb fun i hi => sbx_one _ _ (gt_byt a ya i) (gt_byt b yb i) ?_
  rw [← sbl_gt a i (by omega), ← sbl_gt b i (by omega), h]
theorem shl_one (a b : List Nat) (ha : a.length = 16) (hb : b.length = 16) (h : shl a = shl b) : a = b := by
  rw [← sh4 a ha, ← sh4 b hb, h]
theorem mxl_one (a b : List Nat) (ha : a.length = 16) (hb : b.length = 16) (ya : Byt a) (yb : Byt b) (h : mxl a = mxl b) : a = b := by
  rw [← mx4 a ha ya, ← mx4 b hb yb, h]
theorem xor_one (a b k : Nat) (h : a ^^^ k = b ^^^ k) : a = b := by
  have e : (a ^^^ k) ^^^ k = (b ^^^ k) ^^^ k := by rw [h]
  rw [Nat.xor_assoc, Nat.xor_self, Nat.xor_zero, Nat.xor_assoc, Nat.xor_self, Nat.xor_zero] at e
  exact e
theorem xl_one (a b k : List Nat) (ha : a.length = 16) (hb : b.length = 16) (h : xl a k = xl b k) : a = b := by
  refine ext_gt a b ha hb fun i hi => xor_one _ _ (gt k i) ?_
  rw [← xl_gt a k i (by omega), ← xl_gt b k i (by omega), h]
theorem stt_one (F : Nat → Nat) (hF : ∀ j, F j < 256) (a b : List Nat) (ha : a.length = 16) (hb : b.length = 16) (ya : Byt a) (yb : Byt b) : ∀ r, stt F a r = stt F b r → a = b
  | 0, h => xl_one a b _ ha hb h
  | r + 1, h => by
    have la := stt_len F a ha r
    have lb := stt_len F b hb r
    have za := stt_byt F hF a ya r
    have zb := stt_byt F hF b yb r
    rw [stt, stt] at h
    refine stt_one F hF a b ha hb ya yb r ?_
    split at h
    · have h1 := xl_one _ _ _ (mxl_len _) (mxl_len _) h
      have h2 := mxl_one _ _ (shl_len _) (shl_len _) (shl_byt _ (sbl_byt _ za)) (shl_byt _ (sbl_byt _ zb)) h1
      exact sbl_one _ _ la lb za zb (shl_one _ _ (by rw [sbl_len]; exact la) (by rw [sbl_len]; exact lb) h2)
    · have h2 := xl_one _ _ _ (shl_len _) (shl_len _) h
      exact sbl_one _ _ la lb za zb (shl_one _ _ (by rw [sbl_len]; exact la) (by rw [sbl_len]; exact lb) h2)
theorem enc_one (F : Nat → Nat) (hF : ∀ j, F j < 256) (a b : List Nat) (ha : a.length = 16) (hb : b.length = 16) (ya : Byt a) (yb : Byt b) (h : enc F a = enc F b) : a = b := stt_one F hF a b ha hb ya yb 10 h
/-- A block with one byte turned is another one. -/
theorem turned_ne (l : List Nat) (i k : Nat) (hi : i < l.length) (hk : k ≠ 0) : l.set i (gt l i ^^^ k) ≠ l := by
  intro h
  have e := gt_set_same l i (gt l i ^^^ k) hi
  rw [h] at e
  have f : gt l i ^^^ gt l i = gt l i ^^^ (gt l i ^^^ k) := by rw [← e]
  rw [Nat.xor_self, ← Nat.xor_assoc, Nat.xor_self, Nat.zero_xor] at f
  exact hk f.symm
end Go.Proofs.Ytaopocjagikacaa.M
