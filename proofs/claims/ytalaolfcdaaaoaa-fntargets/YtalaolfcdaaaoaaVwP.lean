/-
  Where a node stands in a view: what cmp.Compare, slices.BinarySearchFunc and the program's placeOf answer there.
-/
import Derived.Test.YtalaolfcdaaaoaaVwS
namespace Go.Proofs.Ytalaolfcdaaaoaa.W
open Go.ChangeShapes Go.WideShapes Go.ChangeAt Go.RowKit
open Go.Proofs.Ytalaolfcdaaaoaa.M

def cmp3 (a b : Int) : Int := if a < b then -1 else if b < a then 1 else 0
set_option maxRecDepth 100000 in
theorem nanI (a : Int) (w : World) : Calls Try.prog 140 #[.int .i64 a] w fun e w' => e = .returned (.bool false) ∧ w' = w := by
  go_enter Try.func140, Try.ntmps140
  go_wp2
  go_ret
  exact ⟨rfl, rfl⟩
set_option maxRecDepth 100000 in
theorem cmpI (a b : Int) (w : World) : Calls Try.prog 119 #[.int .i64 a, .int .i64 b] w fun e w' => e = .returned (.int .i64 (cmp3 a b)) ∧ w' = w := by
  go_enter Try.func119, Try.ntmps119
  go_wp2_with fail
  refine (nanI a _).mono ?_
  rintro e w1 ⟨rfl, rfl⟩
  go_wp2_with fail
  refine (nanI b _).mono ?_
  rintro e w2 ⟨rfl, rfl⟩
  by_cases h1 : a < b
  · have E := hid (show cmp3 a b = -1 by rw [cmp3, if_pos h1])
    go_wp2
    go_ret
    exact ⟨ret_vi E.out.symm, rfl⟩
  · by_cases h2 : b < a
    · have E := hid (show cmp3 a b = 1 by rw [cmp3, if_neg h1, if_pos h2])
      go_wp2
      go_ret
      exact ⟨ret_vi E.out.symm, rfl⟩
    · have E := hid (show cmp3 a b = 0 by rw [cmp3, if_neg h1, if_neg h2])
      go_wp2
      go_ret
      exact ⟨ret_vi E.out.symm, rfl⟩
set_option maxRecDepth 100000 in
theorem ndof (c : Clm) (w : World) : Calls Try.prog 77 #[.agg #[.int .i64 c.n, .int .i64 c.i, .int .i64 c.s, .int .i64 c.m]] w fun e w' => e = .returned (.int .i64 c.n) ∧ Below w.heap.size w w' := by
  go_enter Try.func77, Try.ntmps77
  go_wp2
  go_ret
  exact ⟨rfl, below_alloc1 w _⟩
set_option maxRecDepth 100000 in
theorem plc (c : Clm) (n : Int) (g : Nat) (w : World) (hg : w.heap[g]? = some (.cells #[.func (.func 77) #[] #[]] 108)) :
    Calls Try.prog 118 #[.agg #[.int .i64 c.n, .int .i64 c.i, .int .i64 c.s, .int .i64 c.m], .int .i64 n, .pointer (some ⟨g, 0, none⟩)] w fun e w' => e = .returned (.int .i64 (cmp3 c.n n)) ∧ Below w.heap.size w w' := by
  have V := hid hg
  clear hg
  go_enter Try.func118, Try.ntmps118
  have BB := hid (below_alloc1 w (.cells #[.int .i64 c.n, .int .i64 c.i, .int .i64 c.s, .int .i64 c.m] 38))
  have f0 : (w.alloc (.cells #[.int .i64 c.n, .int .i64 c.i, .int .i64 c.s, .int .i64 c.m] 38)).cell? ⟨g, 0, none⟩ = some (.func (.func 77) #[] #[]) := by
    rw [cell_of_row _ g 0 _ _ _ (var_below BB.out V.out)]
    rfl
  go_wp2_with fail
  refine (ndof c _).mono ?_
  rintro e w1 ⟨rfl, hB⟩
  replace BB := hid (BB.out.trans (hB.mono BB.out.size))
  clear f0 hB V
  go_wp2_with fail
  refine (cmpI _ _ _).mono ?_
  rintro e w2 ⟨rfl, rfl⟩
  obtain ⟨t, ht⟩ : ∃ t, t = cmp3 c.n n := ⟨_, rfl⟩
  rw [← ht]
  replace ht := hid ht
  go_wp2
  go_ret
  exact ⟨ret_vi ht.out, BB.out⟩
end Go.Proofs.Ytalaolfcdaaaoaa.W
