/-
  The exact law of ClaimFault, out of the contracts of its callees.
-/
import Derived.Test.YtifgcffifffdnamClfW
namespace Go.Proofs.Ytifgcffifffdnam.W
open Go.ChangeShapes Go.WideShapes Go.ChangeAt Go.RowKit
open Go.Proofs.Ytifgcffifffdnam.M

set_option maxHeartbeats 1000000 in
set_option maxRecDepth 100000 in
theorem law_ClaimFault (a b c d : Int) (w : World) :
    Calls Try.prog 4 #[.agg #[.int .i64 a, .int .i64 b, .int .i64 c, .int .i64 d]] w fun e w' => e = .returned (.bool true) ∧ Below w.heap.size w w' := by
  go_enter Try.func4, Try.ntmps4
  have V := hid (heap_alloc_new w (.cells #[.int .i64 a, .int .i64 b, .int .i64 c, .int .i64 d] 31))
  have BB := hid (below_alloc1 w (.cells #[.int .i64 a, .int .i64 b, .int .i64 c, .int .i64 d] 31))
  go_wp2_with fail
  generalize w.alloc (.cells #[.int .i64 a, .int .i64 b, .int .i64 c, .int .i64 d] 31) = w0 at *
  obtain ⟨g, hg⟩ : ∃ g, g = w.heap.size := ⟨_, rfl⟩
  rw [← hg] at V ⊢
  replace hg := hid hg
  refine (tocl _ _ _ _ _).mono ?_
  rintro e w1 ⟨rfl, hB⟩
  replace V := hid (var_below hB V.out)
  replace BB := hid (BB.out.trans (hB.mono BB.out.size))
  clear hB
  go_wp2_with fail
  refine (sclf _ _ _ _ _).mono ?_
  rintro e w2 ⟨rfl, hB⟩
  replace V := hid (var_below hB V.out)
  replace BB := hid (BB.out.trans (hB.mono BB.out.size))
  clear hB
  obtain ⟨t, ht⟩ : ∃ t, t = clF a b c d := ⟨_, rfl⟩
  rw [← ht]
  replace ht := hid ht
  obtain ⟨⟨f0, f1, f2, f3⟩, -⟩ := var4_facts V.out
  go_wp2_with fail
  refine (tocl _ _ _ _ _).mono ?_
  rintro e w3 ⟨rfl, hB⟩
  clear f0 f1 f2 f3 V
  replace BB := hid (BB.out.trans (hB.mono BB.out.size))
  clear hB
  go_wp2_with fail
  refine (iclf _ _ _ _ _).mono ?_
  rintro e w4 ⟨rfl, hB⟩
  replace BB := hid (BB.out.trans (hB.mono BB.out.size))
  clear hB
  rw [← ht.out]
  go_wp2
  go_ret
  exact ⟨rfl, BB.out⟩
end Go.Proofs.Ytifgcffifffdnam.W
