/-
  A block counted up: plain mathematics. No program is named here.
-/
import Derived.Test.YtckgjghpfjinfakGreatArr
import Derived.Test.YtckgjghpfjinfakGreatPack
import Derived.Test.YtckgjghpfjinfakGreatRead
namespace Go.Proofs.YtckgjghpfjinfakGreat.M
open Go.RowKit

/-- A block counted up. -/
def cu (l : List Nat) : List Nat := l.take 12 ++ packL ((vt l 12 4 + 1) % 4294967296) 4
theorem cu_len (l : List Nat) (hl : l.length = 16) : (cu l).length = 16 := by simp [cu, packL_len, hl]
theorem cu_byt (l : List Nat) (y : Byt l) : Byt (cu l) := by
  intro x hx
  rcases List.mem_append.1 hx with h | h
  · exact y x (List.mem_of_mem_take h)
  · exact packL_byt _ _ x h
/-- The last n bytes are zeros. -/
def zd (l : List Nat) (n : Nat) : List Nat := l.take (16 - n) ++ List.replicate n 0
theorem zd_len (l : List Nat) (hl : l.length = 16) (n : Nat) (hn : n ≤ 16) : (zd l n).length = 16 := by simp [zd, hl]; omega
theorem zd_zero (l : List Nat) (hl : l.length = 16) : zd l 0 = l := by simp [zd, ← hl]
theorem list16 (l : List Nat) (h : l.length = 16) : ∃ a0 a1 a2 a3 a4 a5 a6 a7 a8 a9 b0 b1 b2 b3 b4 b5, l = [a0, a1, a2, a3, a4, a5, a6, a7, a8, a9, b0, b1, b2, b3, b4, b5] := by
  match l, h with
  | [a0, a1, a2, a3, a4, a5, a6, a7, a8, a9, b0, b1, b2, b3, b4, b5], _ => exact ⟨a0, a1, a2, a3, a4, a5, a6, a7, a8, a9, b0, b1, b2, b3, b4, b5, rfl⟩
theorem zd_gt (l : List Nat) (hl : l.length = 16) (n : Nat) (hn : n < 16) : gt (zd l n) (15 - n) = gt l (15 - n) := by
  unfold zd gt
  rw [List.getD_eq_getElem?_getD, List.getD_eq_getElem?_getD, List.getElem?_append_left (by simp [hl]; omega), List.getElem?_take, if_pos (by omega)]
theorem zd_set (l : List Nat) (hl : l.length = 16) (n : Nat) (hn : n < 4) : (zd l n).set (15 - n) 0 = zd l (n + 1) := by
  obtain ⟨a0, a1, a2, a3, a4, a5, a6, a7, a8, a9, b0, b1, b2, b3, b4, b5, rfl⟩ := list16 l hl
  match n, hn with
  | 0, _ | 1, _ | 2, _ | 3, _ => rfl
theorem cu_explicit (a0 a1 a2 a3 a4 a5 a6 a7 a8 a9 b0 b1 b2 b3 b4 b5 : Nat) :
    cu [a0, a1, a2, a3, a4, a5, a6, a7, a8, a9, b0, b1, b2, b3, b4, b5] = [a0, a1, a2, a3, a4, a5, a6, a7, a8, a9, b0, b1, ((((b2 * 256 + b3) * 256 + b4) * 256 + b5 + 1) % 4294967296) / 16777216 % 256, ((((b2 * 256 + b3) * 256 + b4) * 256 + b5 + 1) % 4294967296) / 65536 % 256, ((((b2 * 256 + b3) * 256 + b4) * 256 + b5 + 1) % 4294967296) / 256 % 256, ((((b2 * 256 + b3) * 256 + b4) * 256 + b5 + 1) % 4294967296) % 256] := by
  have e : vt [a0, a1, a2, a3, a4, a5, a6, a7, a8, a9, b0, b1, b2, b3, b4, b5] 12 4 = ((b2 * 256 + b3) * 256 + b4) * 256 + b5 := by
    simp [vt]
  unfold cu
  rw [e]
  generalize (((b2 * 256 + b3) * 256 + b4) * 256 + b5 + 1) % 4294967296 = m
  simp [packL, List.range_succ]
theorem cu_stop (l : List Nat) (hl : l.length = 16) (y : Byt l) (n : Nat) (hn : n < 4) (h : ∀ j, j < n → gt l (15 - j) = 255) (hne : gt l (15 - n) ≠ 255) : (zd l n).set (15 - n) (gt l (15 - n) + 1) = cu l := by
  obtain ⟨a0, a1, a2, a3, a4, a5, a6, a7, a8, a9, b0, b1, b2, b3, b4, b5, rfl⟩ := list16 l hl
  have y2 : b2 < 256 := y b2 (by simp)
  have y3 : b3 < 256 := y b3 (by simp)
  have y4 : b4 < 256 := y b4 (by simp)
  have y5 : b5 < 256 := y b5 (by simp)
  rw [cu_explicit]
  match n, hn with
  | 0, _ =>
    have h0 : b5 ≠ 255 := hne
    simp [zd, gt]
    omega
  | 1, _ =>
    have h0 : b4 ≠ 255 := hne
    have h1 : b5 = 255 := h 0 (by omega)
    simp [zd, gt]
    omega
  | 2, _ =>
    have h0 : b3 ≠ 255 := hne
    have h1 : b5 = 255 := h 0 (by omega)
    have h2 : b4 = 255 := h 1 (by omega)
    simp [zd, gt]
    omega
  | 3, _ =>
    have h0 : b2 ≠ 255 := hne
    have h1 : b5 = 255 := h 0 (by omega)
    have h2 : b4 = 255 := h 1 (by omega)
    have h3 : b3 = 255 := h 2 (by omega)
    simp [zd, gt]
    omega
theorem cu_all (l : List Nat) (hl : l.length = 16) (h : ∀ j, j < 4 → gt l (15 - j) = 255) : zd l 4 = cu l := by
  obtain ⟨a0, a1, a2, a3, a4, a5, a6, a7, a8, a9, b0, b1, b2, b3, b4, b5, rfl⟩ := list16 l hl
  have h1 : b5 = 255 := h 0 (by omega)
  have h2 : b4 = 255 := h 1 (by omega)
  have h3 : b3 = 255 := h 2 (by omega)
  have h4 : b2 = 255 := h 3 (by omega)
  subst h1 h2 h3 h4
  rw [cu_explicit]
  simp [zd]
def cuN (l : List Nat) : Nat → List Nat
  | 0 => l
  | n + 1 => cu (cuN l n)
theorem cuN_len (l : List Nat) (hl : l.length = 16) : ∀ n, (cuN l n).length = 16
  | 0 => hl
  | n + 1 => cu_len _ (cuN_len l hl n)
theorem cuN_byt (l : List Nat) (y : Byt l) : ∀ n, Byt (cuN l n)
  | 0 => y
  | n + 1 => cu_byt _ (cuN_byt l y n)
end Go.Proofs.YtckgjghpfjinfakGreat.M
