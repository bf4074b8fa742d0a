/-
  The head of a letter out of its bytes: what the program's ReadHead answers.
-/
import Derived.Test.YtmamdbmkjipahabIrhW
namespace Go.Proofs.Ytmamdbmkjipahab.W
open Go.ChangeShapes Go.WideShapes Go.ChangeAt Go.RowKit
open Go.Proofs.Ytmamdbmkjipahab.M

set_option maxRecDepth 100000 in
theorem iletter (k s c : Int) (a : Option Addr) (n cap : Nat) (w : World) :
    Calls Try.prog 110 #[.agg #[.int .i64 s, .int .i64 c, .int .i64 k], .slice a n cap] w fun e w' => e = .returned (.agg #[.int .i64 k, .int .i64 s, .int .i64 c, .slice a n cap]) ∧ Below w.heap.size w w' := by
  go_enter Try.func110, Try.ntmps110
  go_wp2
  exact bodyPost_ret (v := .agg #[.int .i64 k, .int .i64 s, .int .i64 c, .slice a n cap]) (results_cell_row rfl _ _ (w.heap.size + 1) 68 _ _ _ rfl (heap_alloc2_new w _ _) Try.underlying68 rfl (by kernel_rfl)) rfl ⟨rfl, below_alloc2 w _ _⟩
set_option maxHeartbeats 1000000 in
set_option maxRecDepth 100000 in
theorem irhd (v : Value) (l : List Nat) (c rk rs rc : Int) (w : World) (h : Rd w v l) (y : Byt l) (hm : l.length ≤ 1048576) (hR : rhIs l c rk rs rc) :
    Calls Try.prog 50 #[v] w fun e w' => e = .returned (.agg #[.int .i64 c, .int .i64 rk, .int .i64 rs, .int .i64 rc, .slice none 0 0]) ∧ Below w.heap.size w w' := by
  have H := hid h
  have YY := hid y
  have HR := hid hR
  obtain ⟨a, cap, rfl, -, -, -⟩ := h.parts
  clear h y hR
  go_enter Try.func50, Try.ntmps50
  go_wp2_with fail
  have hA := below_alloc1 w (.cells #[.int .i64 0, .int .i64 0, .int .i64 0, .int .i64 0, .slice none 0 0] 70)
  have VR := hid (heap_alloc_new w (.cells #[.int .i64 0, .int .i64 0, .int .i64 0, .int .i64 0, .slice none 0 0] 70))
  replace H := hid (H.out.below hA)
  have BB := hid hA
  clear hA
  generalize w.alloc (.cells #[.int .i64 0, .int .i64 0, .int .i64 0, .int .i64 0, .slice none 0 0] 70) = w0 at *
  obtain ⟨g, hg⟩ : ∃ g, g = w.heap.size := ⟨_, rfl⟩
  rw [← hg] at VR ⊢
  replace hg := hid hg
  refine (irh _ l c rk rs rc _ H.out YY.out hm HR.out).mono ?_
  rintro e w1 ⟨rfl, hB⟩
  replace VR := hid (var_below hB VR.out)
  replace BB := hid (BB.out.trans (hB.mono BB.out.size))
  clear hB
  have VH := hid (heap_alloc_new w1 (.cells #[.int .i64 rs, .int .i64 rc, .int .i64 rk] 137))
  have hA := below_alloc1 w1 (.cells #[.int .i64 rs, .int .i64 rc, .int .i64 rk] 137)
  replace VR := hid (var_below hA VR.out)
  replace BB := hid (BB.out.trans (hA.mono BB.out.size))
  clear hA
  obtain ⟨⟨r0, r1, r2, r3, r4⟩, y0, y1, y2, y3, y4⟩ := var5_facts VR.out
  by_cases hc : c = 0
  · subst hc
    go_wp2_with fail
    clear r0 r1 r2 r3 r4 y0 y1 y2 y3 y4
    generalize w1.alloc (.cells #[.int .i64 rs, .int .i64 rc, .int .i64 rk] 137) = w2 at *
    refine (iletter rk rs rc _ _ _ _).mono ?_
    rintro e w3 ⟨rfl, hB⟩
    replace VR := hid (var_below hB VR.out)
    replace BB := hid (BB.out.trans (hB.mono BB.out.size))
    clear hB
    obtain ⟨⟨r0, r1, r2, r3, r4⟩, y0, y1, y2, y3, y4⟩ := var5_facts VR.out
    have hset := hid (var5_set (v' := .int .i64 0) (x' := .int .i64 rk) (y' := .int .i64 rs) (z' := .int .i64 rc) (u' := .slice none 0 0) VR.out)
    have hbel := hid (below_set5 (g := g) (v := .int .i64 0) (x := .int .i64 rk) (y := .int .i64 rs) (z := .int .i64 rc) (u := .slice none 0 0) BB.out (Nat.le_of_eq hg.out.symm))
    go_wp2
    try simp only [Exit.inBlock, Exit.then]
    exact bodyPost_ret (v := .agg #[.int .i64 0, .int .i64 rk, .int .i64 rs, .int .i64 rc, .slice none 0 0]) (results_cell_row rfl _ _ g 70 _ _ _ rfl hset.out Try.underlying70 rfl (by kernel_rfl)) rfl ⟨rfl, hbel.out⟩
  · obtain ⟨rfl, rfl, rfl⟩ := rh_bad HR.out hc
    have ne : (c != 0) = true := by rw [bne_iff_ne]; exact hc
    replace hc := hid hc
    have hset := hid (var5_set (v' := .int .i64 c) (x' := .int .i64 0) (y' := .int .i64 0) (z' := .int .i64 0) (u' := .slice none 0 0) VR.out)
    have hbel := hid (below_set5 (g := g) (v := .int .i64 c) (x := .int .i64 0) (y := .int .i64 0) (z := .int .i64 0) (u := .slice none 0 0) BB.out (Nat.le_of_eq hg.out.symm))
    go_wp2
    try simp only [Exit.inBlock, Exit.then]
    exact bodyPost_ret (v := .agg #[.int .i64 c, .int .i64 0, .int .i64 0, .int .i64 0, .slice none 0 0]) (results_cell_row rfl _ _ g 70 _ _ _ rfl hset.out Try.underlying70 rfl (by kernel_rfl)) rfl ⟨rfl, hbel.out⟩
end Go.Proofs.Ytmamdbmkjipahab.W
