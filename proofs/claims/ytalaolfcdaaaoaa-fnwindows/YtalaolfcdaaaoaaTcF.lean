/-
  What is told of a counter that a window is to take. No function of the program is named here.
-/
import Derived.Test.YtalaolfcdaaaoaaWinF
namespace Go.Proofs.Ytalaolfcdaaaoaa.M
open Go.RowKit

/-- The answer: code, new top, what is seen then. -/
def TcIs (top : Int) (l : List Int) (n c rk : Int) (lr : List Int) : Prop :=
  (¬ wF top l = 0 ∧ c = wF top l ∧ rk = 0 ∧ lr = []) ∨ (wF top l = 0 ∧ ¬ tkC top l n = 0 ∧ c = tkC top l n ∧ rk = 0 ∧ lr = []) ∨ (wF top l = 0 ∧ tkC top l n = 0 ∧ c = 0 ∧ rk = tkT top n ∧ lr = insZ (tkT top n - 16) n l)
theorem tc_some (top : Int) (l : List Int) (n : Int) : ∃ c rk lr, TcIs top l n c rk lr := by
  by_cases h : wF top l = 0
  · by_cases h2 : tkC top l n = 0
    · exact ⟨_, _, _, .inr (.inr ⟨h, h2, rfl, rfl, rfl⟩)⟩
    · exact ⟨_, _, _, .inr (.inl ⟨h, h2, rfl, rfl, rfl⟩)⟩
  · exact ⟨_, _, _, .inl ⟨h, rfl, rfl, rfl⟩⟩
theorem TcIs.len {top n c rk : Int} {l lr : List Int} (h : TcIs top l n c rk lr) : lr.length ≤ 16 := by
  rcases h with ⟨-, -, -, rfl⟩ | ⟨-, -, -, -, rfl⟩ | ⟨h1, h2, -, -, rfl⟩
  · simp
  · simp
  · exact ((wF_zero h1).take h2).len
/-- There is no code. -/
def newsB (top : Int) (l : List Int) (n : Int) : Bool := decide (wF top l = 0 ∧ tkC top l n = 0)
theorem TcIs.news {top n c rk : Int} {l lr : List Int} (h : TcIs top l n c rk lr) : newsB top l n = decide (c = 0) := by
  unfold newsB
  rcases h with ⟨h1, rfl, -, -⟩ | ⟨h1, h2, rfl, -, -⟩ | ⟨h1, h2, rfl, -, -⟩
  · simp [h1]
  · simp [h1, h2]
  · simp [h1, h2]
end Go.Proofs.Ytalaolfcdaaaoaa.M
