/-
  The cipher's steps over lists of bytes: plain mathematics. No program is named here.
-/
import Derived.Test.YtbleikbmnkjbeapField
import Derived.Test.YtbleikbmnkjbeapXor
namespace Go.Proofs.Ytbleikbmnkjbeap.M
open Go.RowKit

set_option maxRecDepth 100000 in
theorem ft2_fin : ∀ a : Fin 256, ft a.val 2 = xt a.val ∧ ft a.val 3 = xt a.val ^^^ a.val := by decide +kernel
theorem ft2 (a : Nat) (h : a < 256) : ft a 2 = xt a := (ft2_fin ⟨a, h⟩).1
theorem ft3 (a : Nat) (h : a < 256) : ft a 3 = xt a ^^^ a := (ft2_fin ⟨a, h⟩).2

/-- The powers of 3. -/
def pw : Nat → Nat
  | 0 => 1
  | k + 1 => pw k ^^^ xt (pw k)
theorem pw_lt : ∀ k, pw k < 256
  | 0 => by decide
  | k + 1 => Nat.xor_lt_two_pow (n := 8) (pw_lt k) (xt_lt _)
/-- The box of the byte whose inverse is x. -/
def bi (x : Nat) : Nat := ((((99 ^^^ rot x 0) ^^^ rot x 4) ^^^ rot x 5) ^^^ rot x 6) ^^^ rot x 7
theorem bi_lt (x : Nat) (h : x < 256) : bi x < 256 := by
  unfold bi
  repeat (first | exact rot_lt _ _ h | omega | refine Nat.xor_lt_two_pow (n := 8) ?_ ?_)
theorem sbx_bi (a : Nat) : sbx a = bi (finv a) := rfl
/-- The row of powers when k of them are there. -/
def pws (k : Nat) : List Nat := (List.range k).map pw ++ List.replicate (255 - k) 0
theorem pws_len (k : Nat) (h : k ≤ 255) : (pws k).length = 255 := by simp [pws]; omega
theorem pws_set (k : Nat) (h : k < 255) : (pws k).set k (pw k) = pws (k + 1) := by
  have e : 255 - k = (255 - (k + 1)) + 1 := by omega
  unfold pws
  rw [e, List.replicate_succ, List.set_append_right _ _ (by simp), List.range_succ]
  simp
theorem pws_atk (k j : Nat) (h : j < k) : (pws k)[j]? = some (pw j) := by
  unfold pws
  rw [List.getElem?_append_left (by simp; omega)]
  simp [h]
theorem pws_at (j : Nat) (h : j < 255) : (pws 255)[j]? = some (pw j) := pws_atk 255 j h
theorem pws_zero : pws 0 = List.replicate 255 0 := by rw [pws, List.range_zero, List.map_nil, List.nil_append]
/-- The row of the box when k powers have been gone through. -/
def bx : Nat → List Nat
  | 0 => (List.replicate 256 0).set 0 (bi 0)
  | k + 1 => (bx k).set (pw k) (bi (pw ((255 - k) % 255)))
theorem bx_len : ∀ k, (bx k).length = 256
  | 0 => by rw [bx, List.length_set, List.length_replicate]
  | k + 1 => by rw [bx, List.length_set, bx_len k]
/-- The whole box. -/
def boxL : List Nat := (List.range 256).map sbx
theorem boxL_len : boxL.length = 256 := by rw [boxL, List.length_map, List.length_range]
theorem boxL_at (a : Nat) (h : a < 256) : boxL[a]? = some (sbx a) := by rw [boxL, List.getElem?_map, List.getElem?_range h]; rfl
set_option maxRecDepth 100000 in
set_option maxHeartbeats 4000000 in
theorem bx_end : bx 255 = boxL := by decide +kernel

/-- Each byte by the box. -/
def sbl (l : List Nat) : List Nat := l.map sbx
theorem sbl_len (l : List Nat) : (sbl l).length = l.length := by simp [sbl]
/-- The rows turned. -/
def shl (l : List Nat) : List Nat := (List.range 16).map fun i => l.getD ((i + 4 * (i % 4)) % 16) 0
theorem shl_len (l : List Nat) : (shl l).length = 16 := by simp [shl]
/-- The columns mixed: byte i of the new block. -/
def mxb (l : List Nat) (i : Nat) : Nat :=
  let g := fun j => l.getD (i / 4 * 4 + (i + j) % 4) 0
  ((xt (g 0) ^^^ (xt (g 1) ^^^ g 1)) ^^^ g 2) ^^^ g 3
def mxl (l : List Nat) : List Nat := (List.range 16).map (mxb l)
theorem mxl_len (l : List Nat) : (mxl l).length = 16 := by simp [mxl]
theorem shl_len16 (l : List Nat) (_ : l.length = 16) : (shl l).length = 16 := shl_len l
theorem mxl_len16 (l : List Nat) (_ : l.length = 16) : (mxl l).length = 16 := mxl_len l
theorem sbl_len16 (l : List Nat) (h : l.length = 16) : (sbl l).length = 16 := by rw [sbl_len, h]
end Go.Proofs.Ytbleikbmnkjbeap.M
