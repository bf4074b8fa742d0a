/-
  The fault of a claim: what the program's ClaimFault answers.
-/
import Derived.Test.YtemkokgejohlbaaClfW
namespace Go.Proofs.Ytemkokgejohlbaa.W
open Go.ChangeShapes Go.WideShapes Go.ChangeAt Go.RowKit
open Go.Proofs.Ytemkokgejohlbaa.M

set_option maxHeartbeats 1000000 in
set_option maxRecDepth 100000 in
theorem iclf (a b c d : Int) (w : World) :
    Calls Try.prog 25 #[.agg #[.int .i64 a, .int .i64 b, .int .i64 c, .int .i64 d]] w fun e w' => e = .returned (.int .i64 (clF a b c d)) ∧ Below w.heap.size w w' := by
  go_enter Try.func25, Try.ntmps25
  have V := hid (heap_alloc_new w (.cells #[.int .i64 a, .int .i64 b, .int .i64 c, .int .i64 d] 39))
  have BB := hid (below_alloc1 w (.cells #[.int .i64 a, .int .i64 b, .int .i64 c, .int .i64 d] 39))
  go_wp2_with fail
  generalize w.alloc (.cells #[.int .i64 a, .int .i64 b, .int .i64 c, .int .i64 d] 39) = w0 at *
  obtain ⟨g, hg⟩ : ∃ g, g = w.heap.size := ⟨_, rfl⟩
  rw [← hg] at V ⊢
  replace hg := hid hg
  refine (clnu _ _ _).mono ?_
  rintro e w1 ⟨v, rfl, hR, hB⟩
  replace V := hid (var_below hB V.out)
  replace BB := hid (BB.out.trans (hB.mono BB.out.size))
  have R := hid hR
  obtain ⟨gn, rfl, -, -⟩ := hR.parts
  clear hB hR
  go_wp2_with fail
  refine (nfit _ _ [a, b, c, d] _ R.out (kp4 V.out)).mono ?_
  rintro e w2 ⟨rfl, hB⟩
  replace BB := hid (BB.out.trans (hB.mono BB.out.size))
  clear hB V R
  have F := hid (cl_fit (a := a) (b := b) (c := c) (d := d) (B := g) (o := 0))
  generalize fitB _ _ = t at *
  cases t
  · have E := hid (cl_no (fun q => by have := F.out.2 q; cases this))
    clear F
    go_wp2
    go_ret
    exact ⟨ret_cl E.out.symm, BB.out⟩
  · have E := hid (show clF a b c d = 0 from by obtain ⟨h1, h2, h3, h4⟩ := F.out.1 rfl; exact cl_yes h1 h2 h3 h4)
    clear F
    go_wp2
    go_ret
    exact ⟨ret_cl E.out.symm, BB.out⟩
end Go.Proofs.Ytemkokgejohlbaa.W
