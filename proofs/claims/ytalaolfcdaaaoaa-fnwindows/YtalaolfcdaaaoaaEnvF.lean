/-
  Heads and nonces of letters: plain mathematics. No program is named here.
-/
import Derived.Test.YtalaolfcdaaaoaaPack
namespace Go.Proofs.Ytalaolfcdaaaoaa.M

/-- The nonce of a sender and a counter. -/
def nonceL (s c : Nat) : List Nat := packL s 4 ++ packL c 8
/-- The head of a key, a sender and a counter. -/
def headL (k s c : Nat) : List Nat := [1, k, s] ++ packL c 8
theorem nonceL_len (s c : Nat) : (nonceL s c).length = 12 := by simp [nonceL, packL_len]
theorem headL_len (k s c : Nat) : (headL k s c).length = 11 := by simp [headL, packL_len]
theorem byt_app {a b : List Nat} (ha : Byt a) (hb : Byt b) : Byt (a ++ b) := by
  intro x hx
  rcases List.mem_append.1 hx with h | h
  · exact ha x h
  · exact hb x h
theorem nonceL_byt (s c : Nat) : Byt (nonceL s c) := byt_app (packL_byt _ _) (packL_byt _ _)
theorem headL_byt (k s c : Nat) (hk : k < 256) (hs : s < 256) : Byt (headL k s c) := byt_app (fun x hx => by simp at hx; omega) (packL_byt _ _)
/-- A sender and a counter within their bounds. -/
def mOk (s c : Int) : Prop := (0 ≤ s ∧ s ≤ 15) ∧ 0 ≤ c ∧ c ≤ 1000000000
/-- And a key. -/
def hOk (k s c : Int) : Prop := (1 ≤ k ∧ k ≤ 255) ∧ mOk s c
end Go.Proofs.Ytalaolfcdaaaoaa.M
