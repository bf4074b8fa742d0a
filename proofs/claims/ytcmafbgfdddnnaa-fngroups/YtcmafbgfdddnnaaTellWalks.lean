/-
  A block as an answer: what the program's tellBlock answers.
-/
import Derived.Test.YtcmafbgfdddnnaaBlkSize
import Derived.Test.YtcmafbgfdddnnaaSlX
namespace Go.Proofs.Ytcmafbgfdddnnaa.W
open Go.ChangeShapes Go.WideShapes Go.ChangeAt Go.RowKit
open Go.Proofs.Ytcmafbgfdddnnaa.M

set_option maxRecDepth 100000 in
theorem tellb (l : List Nat) (w : World) (hl : l.length = 16) :
    Calls Try.prog 78 #[.agg (arr l)] w fun e w' => ∃ v, e = .returned (.agg #[.int .i64 0, v]) ∧ Owx w' w.heap.size v l ∧ Below w.heap.size w w' := by
  go_enter Try.func78, Try.ntmps78
  go_wp2
  have A0 := Ar.new w 76 l
  have O := Owx.ofAr (base := w.heap.size) (n := 16) (A0.alloc (.cells #[.int .i64 0, .slice (some ⟨w.heap.size, 0, none⟩) 16 16] 33)) hl (Nat.le_refl _) (by unfold maxLen; omega)
  exact bodyPost_ret (v := .agg #[.int .i64 0, .slice (some ⟨w.heap.size, 0, none⟩) 16 16]) (by simp [results, Try.results78, go_sem]) rfl ⟨_, rfl, O, below_alloc2 w _ _⟩
end Go.Proofs.Ytcmafbgfdddnnaa.W
