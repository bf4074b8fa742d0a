/-
  How the exact laws copy letters, measure and compare them.
-/
import Derived.Test.YtckgjghpfjinfalSlE
import Derived.Test.YtckgjghpfjinfalLetF
namespace Go.Proofs.Ytckgjghpfjinfal.W
open Go.ChangeShapes Go.WideShapes Go.ChangeAt Go.RowKit
open Go.Proofs.Ytckgjghpfjinfal.M

set_option maxRecDepth 100000 in
theorem toL (k s c : Int) (v : Value) (l : List Nat) (w : World) (h : Rd w v l) (hl : l.length ≤ 1048576) :
    Calls Try.prog 6 #[.agg #[.int .i64 k, .int .i64 s, .int .i64 c, v]] w fun e w' => ∃ g, e = .returned (.agg #[.int .i64 k, .int .i64 s, .int .i64 c, .slice (some ⟨g, 0, none⟩) l.length l.length]) ∧ OB w' w.heap.size w'.heap.size (.slice (some ⟨g, 0, none⟩) l.length l.length) l ∧ Below w.heap.size w w' := by
  have H := hid h
  obtain ⟨a, cap, rfl, -, -, -⟩ := h.parts
  clear h
  go_enter Try.func6, Try.ntmps6
  go_wp2_with fail
  have V1 : (((w.alloc (.cells #[.int .i64 k, .int .i64 s, .int .i64 c, .slice a l.length cap] 24)).alloc (.cells #[.int .i64 0, .int .i64 0, .int .i64 0, .slice none 0 0] 27)).alloc (.cells #[.int .i64 k, .int .i64 s, .int .i64 c, .slice none 0 0] 27)).heap[w.heap.size + 1]? = some (.cells #[.int .i64 0, .int .i64 0, .int .i64 0, .slice none 0 0] 27) := by
    have h := var_alloc (.cells #[.int .i64 k, .int .i64 s, .int .i64 c, .slice none 0 0] 27) (heap_alloc_new (w.alloc (.cells #[.int .i64 k, .int .i64 s, .int .i64 c, .slice a l.length cap] 24)) (.cells #[.int .i64 0, .int .i64 0, .int .i64 0, .slice none 0 0] 27))
    rw [World.size_alloc] at h
    exact h
  have V2 : (((w.alloc (.cells #[.int .i64 k, .int .i64 s, .int .i64 c, .slice a l.length cap] 24)).alloc (.cells #[.int .i64 0, .int .i64 0, .int .i64 0, .slice none 0 0] 27)).alloc (.cells #[.int .i64 k, .int .i64 s, .int .i64 c, .slice none 0 0] 27)).heap[w.heap.size + 1 + 1]? = some (.cells #[.int .i64 k, .int .i64 s, .int .i64 c, .slice none 0 0] 27) := by
    have h := heap_alloc_new ((w.alloc (.cells #[.int .i64 k, .int .i64 s, .int .i64 c, .slice a l.length cap] 24)).alloc (.cells #[.int .i64 0, .int .i64 0, .int .i64 0, .slice none 0 0] 27)) (.cells #[.int .i64 k, .int .i64 s, .int .i64 c, .slice none 0 0] 27)
    rw [World.size_alloc, World.size_alloc] at h
    exact h
  have B3 : Below w.heap.size w (((w.alloc (.cells #[.int .i64 k, .int .i64 s, .int .i64 c, .slice a l.length cap] 24)).alloc (.cells #[.int .i64 0, .int .i64 0, .int .i64 0, .slice none 0 0] 27)).alloc (.cells #[.int .i64 k, .int .i64 s, .int .i64 c, .slice none 0 0] 27)) := (((Below.refl _ _).alloc (Nat.le_refl _) _).alloc (by simp) _).alloc (by simp; omega) _
  have Z3 : w.heap.size + 1 + 1 < (((w.alloc (.cells #[.int .i64 k, .int .i64 s, .int .i64 c, .slice a l.length cap] 24)).alloc (.cells #[.int .i64 0, .int .i64 0, .int .i64 0, .slice none 0 0] 27)).alloc (.cells #[.int .i64 k, .int .i64 s, .int .i64 c, .slice none 0 0] 27)).heap.size := by simp
  replace H := hid (H.out.below B3)
  generalize (((w.alloc (.cells #[.int .i64 k, .int .i64 s, .int .i64 c, .slice a l.length cap] 24)).alloc (.cells #[.int .i64 0, .int .i64 0, .int .i64 0, .slice none 0 0] 27)).alloc (.cells #[.int .i64 k, .int .i64 s, .int .i64 c, .slice none 0 0] 27)) = w3 at *
  refine (toO _ l _ H.out hl).mono ?_
  rintro e w4 ⟨g3, rfl, O4, hB⟩
  replace V1 := var_below hB V1
  replace V2 := var_below hB V2
  replace B3 := B3.trans (hB.mono B3.size)
  clear hB H
  have G3 : w.heap.size ≤ w3.heap.size := by omega
  generalize w3.heap.size = b3 at *
  obtain ⟨n, hn⟩ : ∃ n, n = l.length := ⟨_, rfl⟩
  rw [← hn] at O4 ⊢
  replace hn := hid hn
  have V1' := var_other V1 ⟨w.heap.size + 1 + 1, 3, none⟩ (.slice (some ⟨g3, 0, none⟩) n n) (by show w.heap.size + 1 ≠ w.heap.size + 1 + 1; omega)
  have V2' := var4_one (u' := .slice (some ⟨g3, 0, none⟩) n n) V2
  have O5 := O4.low ⟨w.heap.size + 1 + 1, 3, none⟩ (by show w.heap.size + 1 + 1 < b3; omega) (.slice (some ⟨g3, 0, none⟩) n n)
  have B5 := B3.setCell (p := ⟨w.heap.size + 1 + 1, 3, none⟩) (by show w.heap.size ≤ w.heap.size + 1 + 1; omega) (.slice (some ⟨g3, 0, none⟩) n n)
  obtain ⟨⟨d0, d1, d2, d3⟩, d4, d5, d6, d7⟩ := var4_facts V2
  obtain ⟨⟨e0, e1, e2, e3⟩, -, -, -, -⟩ := var4_facts V2'
  obtain ⟨⟨f0, f1, f2, f3⟩, f4, f5, f6, f7⟩ := var4_facts V1'
  have HS := hid (var4_set (x' := .int .i64 k) (y' := .int .i64 s) (z' := .int .i64 c) (u' := .slice (some ⟨g3, 0, none⟩) n n) V1')
  have HB := hid (below_st4 (x := .int .i64 k) (y := .int .i64 s) (z := .int .i64 c) (u := .slice (some ⟨g3, 0, none⟩) n n) (g := w.heap.size + 1) B5 (by omega))
  have HO := hid (O5.low4 (g := w.heap.size + 1) (x := .int .i64 k) (y := .int .i64 s) (z := .int .i64 c) (u := .slice (some ⟨g3, 0, none⟩) n n) (by omega))
  clear V1 V2 V1' V2' O4 O5 B3 B5
  go_wp2
  refine bodyPost_ret (v := .agg #[.int .i64 k, .int .i64 s, .int .i64 c, .slice (some ⟨g3, 0, none⟩) n n]) (results_cell_row rfl _ _ (w.heap.size + 1) 27 _ _ _ rfl HS.out Try.underlying27 rfl (by kernel_rfl)) rfl ?_
  have HN := hn.out
  subst HN
  exact ⟨g3, rfl, HO.out.mono G3 (by simp only [size_set]; exact Nat.le_refl _), HB.out⟩
theorem ret_m {a b : Int} (h : a = b) : Ending.returned (.int .i64 a) = .returned (.int .i64 b) := by rw [h]
/-- What is left behind n more, -1 where there is not so much. -/
def szM (left : Int) (n : Nat) : Int := if left - n < 0 then -1 else left - n
set_option maxRecDepth 100000 in
theorem szY (a : Option Addr) (n c : Nat) (left : Int) (w : World) (h0 : 0 ≤ left) (h1 : left ≤ 1048576) (hn : n ≤ maxLen) :
    Calls Try.prog 9 #[.slice a n c, .int .i64 left] w fun e w' => e = .returned (.int .i64 (szM left n)) ∧ Below w.heap.size w w' := by
  unfold maxLen at hn
  unfold szM
  by_cases h : left - n < 0
  · rw [if_pos h]
    go_enter Try.func9, Try.ntmps9
    go_wp2
    go_ret
    exact ⟨rfl, Below.refl _ _⟩
  · rw [if_neg h]
    go_enter Try.func9, Try.ntmps9
    go_wp2
    go_ret
    exact ⟨rfl, Below.refl _ _⟩
set_option maxRecDepth 100000 in
theorem szL (k s c : Int) (a : Option Addr) (n cap : Nat) (left : Int) (w : World) (h0 : 0 ≤ left) (h1 : left ≤ 1048576) (hn : n ≤ maxLen) :
    Calls Try.prog 4 #[.agg #[.int .i64 k, .int .i64 s, .int .i64 c, .slice a n cap], .int .i64 left] w fun e w' => e = .returned (.int .i64 (szM left n)) ∧ Below w.heap.size w w' := by
  go_enter Try.func4, Try.ntmps4
  go_wp2_with fail
  refine (szY _ _ _ _ _ h0 h1 hn).mono ?_
  rintro e w' ⟨rfl, hB⟩
  have HB := hid ((below_alloc1 w _).trans (hB.mono (by simp)))
  clear hB
  by_cases h : left - n < 0
  · have E := hid (show szM left n = -1 by rw [szM, if_pos h])
    rw [E.out]
    go_wp2
    go_ret
    exact ⟨ret_m E.out.symm, HB.out⟩
  · have e : szM left n = left - n := by rw [szM, if_neg h]
    obtain ⟨r, hr⟩ : ∃ r, r = szM left n := ⟨_, rfl⟩
    have g : 0 ≤ r := by rw [hr, e]; omega
    rw [← hr]
    have E := hid hr
    clear e hr
    go_wp2
    go_ret
    exact ⟨ret_m E.out, HB.out⟩
set_option maxRecDepth 100000 in
theorem eqL (k s c : Int) (va vb : Value) (l : List Nat) (w : World) (ha : Rd w va l) (hb : Rd w vb l) (hl : l.length ≤ 1048576) :
    Calls Try.prog 8 #[.agg #[.int .i64 k, .int .i64 s, .int .i64 c, va], .agg #[.int .i64 k, .int .i64 s, .int .i64 c, vb]] w fun e w' => e = .returned (.bool true) ∧ Below w.heap.size w w' := by
  have HA := hid ha
  have HB := hid hb
  obtain ⟨a, ca, rfl, -, -, -⟩ := ha.parts
  obtain ⟨b, cb, rfl, -, -, -⟩ := hb.parts
  clear ha hb
  go_enter Try.func8, Try.ntmps8
  go_wp2_with fail
  refine (eqB _ _ l _ (HA.out.below (below_alloc2 w _ _)) (HB.out.below (below_alloc2 w _ _)) hl).mono ?_
  rintro e w' ⟨rfl, hB⟩
  have BB := hid ((below_alloc2 w _ _).trans (hB.mono (by simp; omega)))
  clear hB
  go_wp2
  go_ret
  exact ⟨rfl, BB.out⟩
end Go.Proofs.Ytckgjghpfjinfal.W
