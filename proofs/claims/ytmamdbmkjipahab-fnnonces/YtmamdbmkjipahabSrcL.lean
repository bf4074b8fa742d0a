/-
  The source from another place on: what the model's l1Later answers, as far as a law needs it.
-/
import Derived.Test.YtmamdbmkjipahabSrc
namespace Go.Proofs.Ytmamdbmkjipahab.W
open Go.ChangeShapes Go.WideShapes Go.ChangeAt Go.RowKit
open Go.Proofs.Ytmamdbmkjipahab.M

set_option maxRecDepth 100000 in
theorem laterOn (v : Value) (l : List Nat) (n : Nat) (w : World) (h : Rd w v l) (y : Byt l) (hn : n ≤ 1000) :
    Calls Try.prog 51 #[v, .int .i64 (n : Int)] w fun e w' => e = .returned (.pointer (some ⟨w.heap.size, 0, none⟩)) ∧ Src w w' w.heap.size v l (5 + 7 * n) := by
  have H := hid h
  obtain ⟨a, cap, rfl, _, _, _⟩ := h.parts
  clear h
  have e1 : IntKind.i64.wrap (7 * (n : Int)) = 7 * (n : Int) := by rw [IntKind.wrap_i64]; omega
  have e2 : IntKind.i64.wrap (5 + 7 * (n : Int)) = ((5 + 7 * n : Nat) : Int) := by rw [IntKind.wrap_i64]; omega
  go_enter Try.func51, Try.ntmps51
  go_wp2
  go_ret
  exact ⟨rfl, H.out, y, below_alloc1 w _, Nat.le_refl _, by first | exact heap_alloc_new w _ | (rw [heap_alloc_new w _]; simp)⟩
end Go.Proofs.Ytmamdbmkjipahab.W
