/-
  Nonces and heads of different numbers: plain mathematics. No function of the program is named here.
-/
import Derived.Test.YtmamdbmkjipahabEnvF
import Derived.Test.YtmamdbmkjipahabRhF
import Derived.Test.YtmamdbmkjipahabSameWalks
import Derived.Lib.Bytes
namespace Go.Proofs.Ytmamdbmkjipahab.W
open Go.Proofs.Ytmamdbmkjipahab.M Go.Lib

theorem pack8 (c : Nat) (h : c < 4294967296) : packL c 8 = [0, 0, 0, 0, c / 16777216 % 256, c / 65536 % 256, c / 256 % 256, c % 256] := by
  have e4 : c / 4294967296 = 0 := Nat.div_eq_of_lt h
  have e5 : c / 1099511627776 = 0 := Nat.div_eq_of_lt (by omega)
  have e6 : c / 281474976710656 = 0 := Nat.div_eq_of_lt (by omega)
  have e7 : c / 72057594037927936 = 0 := Nat.div_eq_of_lt (by omega)
  simp [packL, List.range_succ, e4, e5, e6, e7]
theorem pack4 (s : Nat) (h : s < 256) : packL s 4 = [0, 0, 0, s] := by
  have e1 : s / 256 = 0 := Nat.div_eq_of_lt h
  have e2 : s / 65536 = 0 := Nat.div_eq_of_lt (by omega)
  have e3 : s / 16777216 = 0 := Nat.div_eq_of_lt (by omega)
  simp [packL, List.range_succ, e1, e2, e3]
  omega
theorem nonce_s {s s' c c' : Nat} (h : s < 256) (h' : s' < 256) (hne : s ≠ s') : nonceL s c ≠ nonceL s' c' := by
  unfold nonceL
  rw [pack4 s h, pack4 s' h']
  intro e
  simp at e
  exact hne e.1
theorem nonce_c {s s' c c' : Nat} (h : s < 256) (h' : s' < 256) (hc : c < 4294967296) (hc' : c' < 4294967296) (hne : c ≠ c') : nonceL s c ≠ nonceL s' c' := by
  unfold nonceL
  rw [pack4 s h, pack4 s' h', pack8 c hc, pack8 c' hc']
  intro e
  simp at e
  omega
theorem str_list (a : List Nat) : (strOf a).toList = a.map UInt8.ofNat := by
  unfold strOf
  rw [strOfNums_toList]
  unfold bytesOf
  rw [List.map_map]
  rfl
theorem back (a : List Nat) (h : Byt a) : (a.map UInt8.ofNat).map UInt8.toNat = a := by
  rw [List.map_map]
  conv => rhs; rw [← List.map_id a]
  refine List.map_congr_left fun x hx => ?_
  have := h x hx
  simp [Nat.mod_eq_of_lt this]
theorem same_no {a b : List Nat} (ya : Byt a) (yb : Byt b) (h : a ≠ b) : sameS a b = false := by
  unfold sameS
  rw [str_list, str_list]
  simp only [beq_eq_false_iff_ne, ne_eq]
  intro q
  exact h (by rw [← back a ya, ← back b yb, q])
theorem same_yes (a : List Nat) : sameS a a = true := by
  unfold sameS
  simp
/-- A head that was told is read. -/
theorem rh_head {k s c : Nat} (hk : 1 ≤ k ∧ k ≤ 255) (hs : s ≤ 15) (hc : c ≤ 1000000000) {d rk rs rc : Int} (h : rhIs (headL k s c) d rk rs rc) : d = 0 := by
  have e : headL k s c = [1, k, s, 0, 0, 0, 0, c / 16777216 % 256, c / 65536 % 256, c / 256 % 256, c % 256] := by
    unfold headL
    rw [pack8 c (by omega)]
    rfl
  have hv : vt (headL k s c) 3 8 = c := by
    rw [e]
    simp [vt]
    omega
  refine (rh_yes h (by rw [headL_len]; omega) (by rw [e]; rfl) (by rw [e]; simp) ?_).1
  rw [hv, e]
  refine ⟨?_, ?_, ?_⟩ <;> simp <;> omega
end Go.Proofs.Ytmamdbmkjipahab.W
