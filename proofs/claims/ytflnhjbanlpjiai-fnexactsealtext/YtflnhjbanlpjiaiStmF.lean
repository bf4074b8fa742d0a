/-
  What hides data: the mask and the count as the program keeps them. Plain mathematics: no program is named here.
-/
import Derived.Test.YtflnhjbanlpjiaiSealF
namespace Go.Proofs.Ytflnhjbanlpjiai.M
open Go.RowKit

def mki (F : Nat → Nat) (b : List Nat) (i : Nat) : List Nat := if i = 0 then zs 16 else enc F (cuN b ((i - 1) / 16))
theorem mki_succ (F : Nat → Nat) (b : List Nat) (i : Nat) : mki F b (i + 1) = enc F (cuN b (i / 16)) := by rw [mki, if_neg (by omega), Nat.add_sub_cancel]
theorem mki_same (F : Nat → Nat) (b : List Nat) (i : Nat) (h : ¬ i % 16 = 0) : mki F b i = mki F b (i + 1) := by rw [mki_succ, mki, if_neg (by omega), show (i - 1) / 16 = i / 16 by omega]
theorem mki_len (F : Nat → Nat) (b : List Nat) (hb : b.length = 16) (i : Nat) : (mki F b i).length = 16 := by
  unfold mki
  split
  · exact zs_len 16
  · exact stt_len F _ (cuN_len b hb _) 10
def cti (b : List Nat) (i : Nat) : List Nat := cuN b ((i + 15) / 16)
theorem cti_zero (b : List Nat) : cti b 0 = b := rfl
theorem cti_new (b : List Nat) (i : Nat) (h : i % 16 = 0) : cti b i = cuN b (i / 16) ∧ cu (cti b i) = cti b (i + 1) := by
  have e1 : (i + 15) / 16 = i / 16 := by omega
  have e2 : (i + 1 + 15) / 16 = i / 16 + 1 := by omega
  refine ⟨by rw [cti, e1], ?_⟩
  rw [cti, cti, e1, e2]
  rfl
theorem cti_same (b : List Nat) (i : Nat) (h : ¬ i % 16 = 0) : cti b i = cti b (i + 1) := by rw [cti, cti, show (i + 1 + 15) / 16 = (i + 15) / 16 by omega]
theorem cti_len (b : List Nat) (hb : b.length = 16) (i : Nat) : (cti b i).length = 16 := cuN_len b hb _
theorem cti_byt (b : List Nat) (y : Byt b) (i : Nat) : Byt (cti b i) := cuN_byt b y _
theorem strm_next (F : Nat → Nat) (b d : List Nat) (i : Nat) (hi : i < d.length) : gt (strm F b d) i = gt d i ^^^ gt (mki F b (i + 1)) (i % 16) := by
  rw [strm_gt _ _ _ _ hi, mki_succ]
  rfl
end Go.Proofs.Ytflnhjbanlpjiai.M
