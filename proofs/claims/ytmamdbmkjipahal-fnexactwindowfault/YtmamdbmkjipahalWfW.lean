/-
  What the program's WindowFault answers.
-/
import Derived.Test.YtmamdbmkjipahalTsoW
namespace Go.Proofs.Ytmamdbmkjipahal.W
open Go.ChangeShapes Go.WideShapes Go.ChangeAt Go.RowKit Go.Maps
open Go.Proofs.Ytmamdbmkjipahal.M

theorem ret_wz {a b : Int} (h : a = b) : Ending.returned (.int .i64 a) = .returned (.int .i64 b) := by rw [h]
set_option maxRecDepth 100000 in
theorem iwf (top : Int) (v : Value) (l : List Int) (w : World) (h : RdZ w v l) (hy : WfZ l) (hl : l.length ≤ 1048576) :
    Calls Try.prog 17 #[.agg #[.int .i64 top, v]] w fun e w' => e = .returned (.int .i64 (wF top l)) ∧ Below w.heap.size w w' := by
  have H := hid h
  have HY := hid hy
  obtain ⟨a, cap, rfl, -, -, -⟩ := h.parts
  clear h hy
  go_enter Try.func17, Try.ntmps17
  go_wp2_with fail
  have hA := below_alloc1 w (.cells #[.int .i64 top, .slice a l.length cap] 35)
  refine (iso top _ l _ (H.out.below hA) HY.out hl).mono ?_
  rintro e w1 ⟨r, rfl, -, hB⟩
  have BB := hid (hA.trans (hB.mono hA.size))
  clear hA hB
  obtain ⟨c, hc⟩ : ∃ c, c = wF top l := ⟨_, rfl⟩
  rw [← hc]
  have HC := hid hc
  clear hc
  go_wp2
  go_ret
  exact ⟨ret_wz HC.out, BB.out⟩
end Go.Proofs.Ytmamdbmkjipahal.W
