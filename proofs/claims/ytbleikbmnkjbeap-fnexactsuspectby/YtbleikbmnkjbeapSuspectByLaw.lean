/-
  The exact law of SuspectBy, out of the contracts of its callees. Generated text.
-/
import Derived.Test.YtbleikbmnkjbeapCrI
import Derived.Test.YtbleikbmnkjbeapCrE
import Derived.Test.YtbleikbmnkjbeapVwEq
namespace Go.Proofs.Ytbleikbmnkjbeap.W
open Go.ChangeShapes Go.WideShapes Go.ChangeAt Go.RowKit
open Go.Proofs.Ytbleikbmnkjbeap.M

set_option maxHeartbeats 4000000 in
set_option maxRecDepth 100000 in
theorem law_SuspectBy (v0 : Value) (cs0 : List Clm) (n1 : Int) (w : World) (h0 : RdC w v0 cs0) :
    Calls Try.prog 7 #[v0, .int .i64 n1] w fun e w' => e = .returned (.bool true) ∧ Below w.heap.size w w' := by
  have H0 := hid h0
  obtain ⟨p0, k0, rfl, -, -, -⟩ := h0.parts
  clear h0
  have BB := hid (Below.refl w.heap.size w)
  go_enter Try.func7, Try.ntmps7
  go_wp2_with fail
  refine (szCS _ cs0 1048576 _ H0.out (by omega) (by omega)).mono ?_
  rintro e w1 ⟨rfl, hB⟩
  replace H0 := hid (H0.out.below hB)
  replace BB := hid (BB.out.trans (hB.mono BB.out.size))
  clear hB
  by_cases hz : (1048576 : Int) < cs0.length
  · rw [show szC 1048576 cs0.length = -1 by rw [szC, if_pos hz]]
    go_wp2
    go_ret
    exact ⟨rfl, BB.out⟩
  obtain ⟨l0, e1⟩ : ∃ r, r = szC 1048576 cs0.length := ⟨_, rfl⟩
  have e1' : szC 1048576 cs0.length = 1048576 - cs0.length := by rw [szC, if_neg hz]
  have g0 : 0 ≤ l0 := by rw [e1, e1']; omega
  have kl0 : cs0.length ≤ 1048576 := by omega
  rw [← e1]
  clear e1 e1' hz
  go_wp2_with fail
  refine (toCS _ cs0 _ H0.out kl0).mono ?_
  rintro e w2 ⟨gtT0, rfl, hO, hB⟩
  have T0 := hid hO.rd
  clear hO
  replace H0 := hid (H0.out.below hB)
  replace BB := hid (BB.out.trans (hB.mono BB.out.size))
  clear hB
  go_wp2_with fail
  refine (ssus _ cs0 n1 _ T0.out).mono ?_
  rintro e w3 ⟨rfl, hB⟩
  replace H0 := hid (H0.out.below hB)
  replace T0 := hid (T0.out.below hB)
  replace BB := hid (BB.out.trans (hB.mono BB.out.size))
  clear hB
  clear T0
  obtain ⟨r, hr⟩ : ∃ r, r = suA cs0 n1 := ⟨_, rfl⟩
  rw [← hr]
  replace hr := hid hr
  have VW := hid (heap_alloc_new w3 (.cells #[.int .i64 r.1, .int .i64 r.2.1.n, .int .i64 r.2.1.i, .int .i64 r.2.1.s, .int .i64 r.2.1.m, .bool r.2.2] 41))
  have hA := below_alloc1 w3 (.cells #[.int .i64 r.1, .int .i64 r.2.1.n, .int .i64 r.2.1.i, .int .i64 r.2.1.s, .int .i64 r.2.1.m, .bool r.2.2] 41)
  replace H0 := hid (H0.out.below hA)
  replace BB := hid (BB.out.trans (hA.mono BB.out.size))
  clear hA
  obtain ⟨vw_0, vw_1, vw_2, vw_3, vw_4, vw_5⟩ := r6_facts VW.out
  go_wp2_with fail
  clear vw_0 vw_1 vw_2 vw_3 vw_4 vw_5
  generalize w3.alloc (.cells #[.int .i64 r.1, .int .i64 r.2.1.n, .int .i64 r.2.1.i, .int .i64 r.2.1.s, .int .i64 r.2.1.m, .bool r.2.2] 41) = w3a at *
  refine (toCS _ cs0 _ H0.out kl0).mono ?_
  rintro e w4 ⟨gtX0, rfl, hO, hB⟩
  have X0 := hid hO.rd
  clear hO
  replace H0 := hid (H0.out.below hB)
  replace VW := hid (var_below hB VW.out)
  replace BB := hid (BB.out.trans (hB.mono BB.out.size))
  clear hB
  obtain ⟨vw_0, vw_1, vw_2, vw_3, vw_4, vw_5⟩ := r6_facts VW.out
  go_wp2_with fail
  clear vw_0 vw_1 vw_2 vw_3 vw_4 vw_5
  refine (isus _ cs0 n1 _ X0.out).mono ?_
  rintro e w5 ⟨rfl, hB⟩
  replace H0 := hid (H0.out.below hB)
  replace X0 := hid (X0.out.below hB)
  replace VW := hid (var_below hB VW.out)
  replace BB := hid (BB.out.trans (hB.mono BB.out.size))
  clear hB
  rw [← hr.out]
  have VG := hid (heap_alloc_new w5 (.cells #[.int .i64 r.1, .int .i64 r.2.1.n, .int .i64 r.2.1.i, .int .i64 r.2.1.s, .int .i64 r.2.1.m, .bool r.2.2] 41))
  have hA := below_alloc1 w5 (.cells #[.int .i64 r.1, .int .i64 r.2.1.n, .int .i64 r.2.1.i, .int .i64 r.2.1.s, .int .i64 r.2.1.m, .bool r.2.2] 41)
  replace H0 := hid (H0.out.below hA)
  replace X0 := hid (X0.out.below hA)
  replace VW := hid (var_below hA VW.out)
  replace BB := hid (BB.out.trans (hA.mono BB.out.size))
  clear hA
  obtain ⟨vw_0, vw_1, vw_2, vw_3, vw_4, vw_5⟩ := r6_facts VW.out
  obtain ⟨vg_0, vg_1, vg_2, vg_3, vg_4, vg_5⟩ := r6_facts VG.out
  go_wp2_with fail
  clear vw_0 vw_1 vw_2 vw_3 vw_4 vw_5 vg_0 vg_1 vg_2 vg_3 vg_4 vg_5
  generalize w5.alloc (.cells #[.int .i64 r.1, .int .i64 r.2.1.n, .int .i64 r.2.1.i, .int .i64 r.2.1.s, .int .i64 r.2.1.m, .bool r.2.2] 41) = w5a at *
  refine (eqCR r _).mono ?_
  rintro e w6 ⟨rfl, hB⟩
  replace H0 := hid (H0.out.below hB)
  replace X0 := hid (X0.out.below hB)
  replace VW := hid (var_below hB VW.out)
  replace VG := hid (var_below hB VG.out)
  replace BB := hid (BB.out.trans (hB.mono BB.out.size))
  clear hB
  obtain ⟨vw_0, vw_1, vw_2, vw_3, vw_4, vw_5⟩ := r6_facts VW.out
  obtain ⟨vg_0, vg_1, vg_2, vg_3, vg_4, vg_5⟩ := r6_facts VG.out
  go_wp2_with fail
  clear vw_0 vw_1 vw_2 vw_3 vw_4 vw_5 vg_0 vg_1 vg_2 vg_3 vg_4 vg_5
  refine (toCS _ cs0 _ H0.out kl0).mono ?_
  rintro e w7 ⟨gY0, rfl, hO, hB⟩
  have Y := hid hO.rd
  clear hO
  replace H0 := hid (H0.out.below hB)
  replace X0 := hid (X0.out.below hB)
  replace VW := hid (var_below hB VW.out)
  replace VG := hid (var_below hB VG.out)
  replace BB := hid (BB.out.trans (hB.mono BB.out.size))
  clear hB
  obtain ⟨vw_0, vw_1, vw_2, vw_3, vw_4, vw_5⟩ := r6_facts VW.out
  obtain ⟨vg_0, vg_1, vg_2, vg_3, vg_4, vg_5⟩ := r6_facts VG.out
  go_wp2_with fail
  clear vw_0 vw_1 vw_2 vw_3 vw_4 vw_5 vg_0 vg_1 vg_2 vg_3 vg_4 vg_5
  refine (eqCS _ _ cs0 _ X0.out Y.out kl0).mono ?_
  rintro e w8 ⟨rfl, hB⟩
  replace H0 := hid (H0.out.below hB)
  replace X0 := hid (X0.out.below hB)
  replace Y := hid (Y.out.below hB)
  replace VW := hid (var_below hB VW.out)
  replace VG := hid (var_below hB VG.out)
  replace BB := hid (BB.out.trans (hB.mono BB.out.size))
  clear hB
  clear Y
  go_wp2
  go_ret
  exact ⟨rfl, BB.out⟩
end Go.Proofs.Ytbleikbmnkjbeap.W
