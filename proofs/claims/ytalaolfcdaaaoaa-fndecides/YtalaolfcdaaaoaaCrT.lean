/-
  What RefuteBy, SuspectBy and BuryBy answer: turnedTo of the program.
-/
import Derived.Test.YtalaolfcdaaaoaaVwF
namespace Go.Proofs.Ytalaolfcdaaaoaa.W
open Go.ChangeShapes Go.WideShapes Go.ChangeAt Go.RowKit
open Go.Proofs.Ytalaolfcdaaaoaa.M

set_option maxHeartbeats 2000000 in
set_option maxRecDepth 100000 in
theorem ttt (s : Int) (x : Clm) (t : Bool) (w : World) :
    Calls Try.prog 93 #[.int .i64 s, .agg #[.int .i64 x.n, .int .i64 x.i, .int .i64 x.s, .int .i64 x.m], .bool t] w fun e w' => e = .returned (.agg #[.int .i64 0, .int .i64 x.n, .int .i64 x.i, .int .i64 (if t = true then s else x.s), .int .i64 x.m, .bool t]) ∧ Below w.heap.size w w' := by
  cases t
  · have V := hid (heap_alloc_new (w.alloc (.cells #[.int .i64 x.n, .int .i64 x.i, .int .i64 x.s, .int .i64 x.m] 38)) (.cells #[.int .i64 0, .int .i64 x.n, .int .i64 x.i, .int .i64 x.s, .int .i64 x.m, .bool false] 57))
    have BB := hid (below_alloc2 w (.cells #[.int .i64 x.n, .int .i64 x.i, .int .i64 x.s, .int .i64 x.m] 38) (.cells #[.int .i64 0, .int .i64 x.n, .int .i64 x.i, .int .i64 x.s, .int .i64 x.m, .bool false] 57))
    simp only [World.size_alloc] at V
    go_enter Try.func93, Try.ntmps93
    go_wp2
    exact bodyPost_ret (v := .agg #[.int .i64 0, .int .i64 x.n, .int .i64 x.i, .int .i64 x.s, .int .i64 x.m, .bool false]) (results_cell_row rfl _ _ (w.heap.size + 1) 57 _ _ _ rfl V.out Try.underlying57 rfl (by kernel_rfl)) rfl ⟨rfl, BB.out⟩
  · have V := hid (heap_alloc_new (w.alloc (.cells #[.int .i64 x.n, .int .i64 x.i, .int .i64 s, .int .i64 x.m] 38)) (.cells #[.int .i64 0, .int .i64 x.n, .int .i64 x.i, .int .i64 s, .int .i64 x.m, .bool true] 57))
    have BB := hid (below_alloc2 w (.cells #[.int .i64 x.n, .int .i64 x.i, .int .i64 s, .int .i64 x.m] 38) (.cells #[.int .i64 0, .int .i64 x.n, .int .i64 x.i, .int .i64 s, .int .i64 x.m, .bool true] 57))
    simp only [World.size_alloc] at V
    go_enter Try.func93, Try.ntmps93
    go_wp2
    exact bodyPost_ret (v := .agg #[.int .i64 0, .int .i64 x.n, .int .i64 x.i, .int .i64 s, .int .i64 x.m, .bool true]) (results_cell_row rfl _ _ (w.heap.size + 1) 57 _ _ _ rfl V.out Try.underlying57 rfl (by kernel_rfl)) rfl ⟨rfl, BB.out⟩
end Go.Proofs.Ytalaolfcdaaaoaa.W
