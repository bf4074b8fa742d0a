/-
  What RefuteBy, SuspectBy and BuryBy answer: how the laws compare it.
-/
import Derived.Test.YtbleikbmnkjbeapCrF
namespace Go.Proofs.Ytbleikbmnkjbeap.W
open Go.ChangeShapes Go.WideShapes Go.ChangeAt Go.RowKit
open Go.Proofs.Ytbleikbmnkjbeap.M

theorem c4_facts {w : World} {g : Nat} {x y z u : Value} {T : TypeId} (h : w.heap[g]? = some (.cells #[x, y, z, u] T)) :
    w.cell? ⟨g, 0, none⟩ = some x ∧ w.cell? ⟨g, 1, none⟩ = some y ∧ w.cell? ⟨g, 2, none⟩ = some z ∧ w.cell? ⟨g, 3, none⟩ = some u := (var4_factsC h).1
theorem r6_facts {w : World} {g : Nat} {x0 x1 x2 x3 x4 x5 : Value} {T : TypeId} (h : w.heap[g]? = some (.cells #[x0, x1, x2, x3, x4, x5] T)) :
    w.cell? ⟨g, 0, none⟩ = some x0 ∧ w.cell? ⟨g, 1, none⟩ = some x1 ∧ w.cell? ⟨g, 2, none⟩ = some x2 ∧ w.cell? ⟨g, 3, none⟩ = some x3 ∧ w.cell? ⟨g, 4, none⟩ = some x4 ∧ w.cell? ⟨g, 5, none⟩ = some x5 := (v6_facts h).1
set_option maxHeartbeats 1000000 in
set_option maxRecDepth 100000 in
theorem eqcX (a b c d : Int) (w : World) :
    Calls Try.prog 51 #[.agg #[.int .i64 a, .int .i64 b, .int .i64 c, .int .i64 d], .agg #[.int .i64 a, .int .i64 b, .int .i64 c, .int .i64 d]] w fun e w' => e = .returned (.bool true) ∧ Below w.heap.size w w' := by
  go_enter Try.func51, Try.ntmps51
  go_wp2
  go_ret
  exact ⟨rfl, below_alloc2 w _ _⟩
set_option maxHeartbeats 1000000 in
set_option maxRecDepth 100000 in
theorem eqCR (r : Int × Clm × Bool) (w : World) :
    Calls Try.prog 25 #[.agg #[.int .i64 r.1, .int .i64 r.2.1.n, .int .i64 r.2.1.i, .int .i64 r.2.1.s, .int .i64 r.2.1.m, .bool r.2.2], .agg #[.int .i64 r.1, .int .i64 r.2.1.n, .int .i64 r.2.1.i, .int .i64 r.2.1.s, .int .i64 r.2.1.m, .bool r.2.2]] w fun e w' => e = .returned (.bool true) ∧ Below w.heap.size w w' := by
  obtain ⟨c, x, t⟩ := r
  have V0 := hid (var_alloc (.cells #[.int .i64 c, .int .i64 x.n, .int .i64 x.i, .int .i64 x.s, .int .i64 x.m, .bool t] 41) (heap_alloc_new w (.cells #[.int .i64 c, .int .i64 x.n, .int .i64 x.i, .int .i64 x.s, .int .i64 x.m, .bool t] 41)))
  have V1 := hid (heap_alloc_new (w.alloc (.cells #[.int .i64 c, .int .i64 x.n, .int .i64 x.i, .int .i64 x.s, .int .i64 x.m, .bool t] 41)) (.cells #[.int .i64 c, .int .i64 x.n, .int .i64 x.i, .int .i64 x.s, .int .i64 x.m, .bool t] 41))
  have B0 := hid (below_alloc2 w (.cells #[.int .i64 c, .int .i64 x.n, .int .i64 x.i, .int .i64 x.s, .int .i64 x.m, .bool t] 41) (.cells #[.int .i64 c, .int .i64 x.n, .int .i64 x.i, .int .i64 x.s, .int .i64 x.m, .bool t] 41))
  simp only [World.size_alloc] at V1
  go_enter Try.func25, Try.ntmps25
  go_wp2_with fail
  refine (eqcX _ _ _ _ _).mono ?_
  rintro e w' ⟨rfl, hB⟩
  have BB := hid (B0.out.trans (hB.mono B0.out.size))
  replace V0 := hid (var_below hB V0.out)
  replace V1 := hid (var_below hB V1.out)
  have f0 : w'.cell? ⟨w.heap.size, 5, none⟩ = some (.bool t) := by rw [cell_of_row w' _ 5 _ _ _ V0.out]; rfl
  have f1 : w'.cell? ⟨w.heap.size + 1, 5, none⟩ = some (.bool t) := by rw [cell_of_row w' _ 5 _ _ _ V1.out]; rfl
  clear hB B0 V0 V1
  cases t
  · go_wp2
    go_ret
    exact ⟨rfl, BB.out⟩
  · go_wp2
    go_ret
    exact ⟨rfl, BB.out⟩
end Go.Proofs.Ytbleikbmnkjbeap.W
