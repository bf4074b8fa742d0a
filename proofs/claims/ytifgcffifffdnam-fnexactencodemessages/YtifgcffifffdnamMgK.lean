/-
  How the exact laws measure, copy, compare and mark a key.
-/
import Derived.Test.YtifgcffifffdnamSlB
import Derived.Test.YtifgcffifffdnamMkB
import Derived.Test.YtifgcffifffdnamKsM
namespace Go.Proofs.Ytifgcffifffdnam.W
open Go.ChangeShapes Go.WideShapes Go.ChangeAt Go.RowKit
open Go.Proofs.Ytifgcffifffdnam.M

/-- What is left behind n more, -1 where there is not so much. -/
def szN (left : Int) (n : Nat) : Int := if left - n < 0 then -1 else left - n
set_option maxRecDepth 100000 in
theorem szB (a : Option Addr) (n c : Nat) (left : Int) (w : World) (h0 : 0 ≤ left) (h1 : left ≤ 1048576) (hn : n ≤ maxLen) :
    Calls Try.prog 66 #[.slice a n c, .int .i64 left] w fun e w' => e = .returned (.int .i64 (szN left n)) ∧ Below w.heap.size w w' := by
  unfold maxLen at hn
  unfold szN
  by_cases h : left - n < 0
  · rw [if_pos h]
    go_enter Try.func66, Try.ntmps66
    go_wp2
    go_ret
    exact ⟨rfl, Below.refl _ _⟩
  · rw [if_neg h]
    go_enter Try.func66, Try.ntmps66
    go_wp2
    go_ret
    exact ⟨rfl, Below.refl _ _⟩
set_option maxRecDepth 100000 in
theorem szK (p : Int) (a : Option Addr) (n c : Nat) (left : Int) (w : World) (h0 : 0 ≤ left) (h1 : left ≤ 1048576) (hn : n ≤ maxLen) :
    Calls Try.prog 50 #[.agg #[.int .i64 p, .slice a n c], .int .i64 left] w fun e w' => e = .returned (.int .i64 (szN left n)) ∧ Below w.heap.size w w' := by
  go_enter Try.func50, Try.ntmps50
  go_wp2_with fail
  refine (szB _ _ _ _ _ h0 h1 hn).mono ?_
  rintro e w' ⟨rfl, hB⟩
  have HB := hid ((below_alloc1 w _).trans (hB.mono (by simp)))
  clear hB
  by_cases h : left - n < 0
  · have E := hid (show szN left n = -1 by rw [szN, if_pos h])
    rw [E.out]
    go_wp2
    go_ret
    exact ⟨congrArg (fun z => Ending.returned (.int .i64 z)) E.out.symm, HB.out⟩
  · have e : szN left n = left - n := by rw [szN, if_neg h]
    obtain ⟨r, hr⟩ : ∃ r, r = szN left n := ⟨_, rfl⟩
    have g : 0 ≤ r := by rw [hr, e]; omega
    rw [← hr]
    have E := hid hr
    clear e hr
    go_wp2
    go_ret
    exact ⟨congrArg (fun z => Ending.returned (.int .i64 z)) E.out, HB.out⟩
theorem cellsK {w : World} {g g' : Nat} {x y s : Value} {T : TypeId} (h : w.heap[g]? = some (.cells #[x, y] T)) (hne : g ≠ g') : (w.setCell ⟨g', 1, none⟩ s).heap[g]? = some (.cells #[x, y] T) := by
  rw [Below.heap_setCell _ _ _ _ hne]; exact h
theorem cellsS {w : World} {g : Nat} {x y y' : Value} {T : TypeId} (h : w.heap[g]? = some (.cells #[x, y] T)) : (w.setCell ⟨g, 1, none⟩ y').heap[g]? = some (.cells #[x, y'] T) := by
  have h1 := heap_setCell_same w g 1 _ T y' h
  simpa using h1
set_option maxRecDepth 100000 in
theorem toK (p : Int) (v : Value) (l : List Nat) (w : World) (h : Rd w v l) (hl : l.length ≤ 1048576) :
    Calls Try.prog 52 #[.agg #[.int .i64 p, v]] w fun e w' => ∃ g, e = .returned (.agg #[.int .i64 p, .slice (some ⟨g, 0, none⟩) l.length l.length]) ∧ Own w' w.heap.size (.slice (some ⟨g, 0, none⟩) l.length l.length) l ∧ Below w.heap.size w w' := by
  have H := hid h
  obtain ⟨a, cap, rfl, -, -, -⟩ := h.parts
  clear h
  go_enter Try.func52, Try.ntmps52
  go_wp2_with fail
  have V1 : (((w.alloc (.cells #[.int .i64 p, .slice a l.length cap] 38)).alloc (.cells #[.int .i64 0, .slice none 0 0] 43)).alloc (.cells #[.int .i64 p, .slice none 0 0] 43)).heap[w.heap.size + 1]? = some (.cells #[.int .i64 0, .slice none 0 0] 43) := by
    have h := var_alloc (.cells #[.int .i64 p, .slice none 0 0] 43) (heap_alloc_new (w.alloc (.cells #[.int .i64 p, .slice a l.length cap] 38)) (.cells #[.int .i64 0, .slice none 0 0] 43))
    rw [World.size_alloc] at h
    exact h
  have V2 : (((w.alloc (.cells #[.int .i64 p, .slice a l.length cap] 38)).alloc (.cells #[.int .i64 0, .slice none 0 0] 43)).alloc (.cells #[.int .i64 p, .slice none 0 0] 43)).heap[w.heap.size + 1 + 1]? = some (.cells #[.int .i64 p, .slice none 0 0] 43) := by
    have h := heap_alloc_new ((w.alloc (.cells #[.int .i64 p, .slice a l.length cap] 38)).alloc (.cells #[.int .i64 0, .slice none 0 0] 43)) (.cells #[.int .i64 p, .slice none 0 0] 43)
    rw [World.size_alloc, World.size_alloc] at h
    exact h
  have B3 : Below w.heap.size w (((w.alloc (.cells #[.int .i64 p, .slice a l.length cap] 38)).alloc (.cells #[.int .i64 0, .slice none 0 0] 43)).alloc (.cells #[.int .i64 p, .slice none 0 0] 43)) := (((Below.refl _ _).alloc (Nat.le_refl _) _).alloc (by simp) _).alloc (by simp; omega) _
  have Z3 : w.heap.size + 1 + 1 < (((w.alloc (.cells #[.int .i64 p, .slice a l.length cap] 38)).alloc (.cells #[.int .i64 0, .slice none 0 0] 43)).alloc (.cells #[.int .i64 p, .slice none 0 0] 43)).heap.size := by simp
  replace H := hid (H.out.below B3)
  generalize (((w.alloc (.cells #[.int .i64 p, .slice a l.length cap] 38)).alloc (.cells #[.int .i64 0, .slice none 0 0] 43)).alloc (.cells #[.int .i64 p, .slice none 0 0] 43)) = w3 at *
  refine (toB _ l _ H.out hl).mono ?_
  rintro e w4 ⟨rfl, O4, hB⟩
  replace V1 := var_below hB V1
  replace V2 := var_below hB V2
  replace B3 := B3.trans (hB.mono B3.size)
  clear hB H
  have G3 : w.heap.size ≤ w3.heap.size := by omega
  generalize w3.heap.size = g3 at *
  unfold Own at O4
  obtain ⟨n, hn⟩ : ∃ n, n = l.length := ⟨_, rfl⟩
  rw [← hn] at O4 ⊢
  replace hn := hid hn
  have V1' := cellsK (s := .slice (some ⟨g3, 0, none⟩) n n) (g' := w.heap.size + 1 + 1) V1 (by omega)
  have V2' := cellsS (y' := .slice (some ⟨g3, 0, none⟩) n n) V2
  have O5 := ownsRow_setCell_below O4 (a := ⟨w.heap.size + 1 + 1, 1, none⟩) (by show w.heap.size + 1 + 1 < g3; omega) (.slice (some ⟨g3, 0, none⟩) n n)
  have B5 := B3.setCell (p := ⟨w.heap.size + 1 + 1, 1, none⟩) (by show w.heap.size ≤ w.heap.size + 1 + 1; omega) (.slice (some ⟨g3, 0, none⟩) n n)
  obtain ⟨d0, d1, d2, d3⟩ := var2_facts V2
  obtain ⟨e0, e1, -, -⟩ := var2_facts V2'
  obtain ⟨f0, f1, f2, f3⟩ := var2_facts V1'
  have HS := hid (var2_set (x' := .int .i64 p) (y' := .slice (some ⟨g3, 0, none⟩) n n) V1')
  have HB := hid (below_set2 (x := .int .i64 p) (y := .slice (some ⟨g3, 0, none⟩) n n) (g := w.heap.size + 1) B5 (by omega))
  have HO := hid ((ownsRow_setCell_below (ownsRow_setCell_below O5 (a := ⟨w.heap.size + 1, 0, none⟩) (by show w.heap.size + 1 < g3; omega) (.int .i64 p)) (a := ⟨w.heap.size + 1, 1, none⟩) (by show w.heap.size + 1 < g3; omega) (.slice (some ⟨g3, 0, none⟩) n n)))
  clear V1 V2 V1' V2' O4 O5 B3 B5
  go_wp2
  refine bodyPost_ret (v := .agg #[.int .i64 p, .slice (some ⟨g3, 0, none⟩) n n]) (results_cell_row rfl _ _ (w.heap.size + 1) 43 _ _ _ rfl HS.out Try.underlying43 rfl (by kernel_rfl)) rfl ?_
  have HN := hn.out
  subst HN
  exact ⟨g3, rfl, Own.mono (show Own _ g3 _ _ from HO.out) G3, HB.out⟩

set_option maxRecDepth 100000 in
theorem eqK (p : Int) (va vb : Value) (l : List Nat) (w : World) (ha : Rd w va l) (hb : Rd w vb l) (hl : l.length ≤ 1048576) :
    Calls Try.prog 55 #[.agg #[.int .i64 p, va], .agg #[.int .i64 p, vb]] w fun e w' => e = .returned (.bool true) ∧ Below w.heap.size w w' := by
  have HA := hid ha
  have HB := hid hb
  obtain ⟨a, ca, rfl, -, -, -⟩ := ha.parts
  obtain ⟨b, cb, rfl, -, -, -⟩ := hb.parts
  clear ha hb
  go_enter Try.func55, Try.ntmps55
  go_wp2_with fail
  refine (eqB _ _ l _ (HA.out.below (below_alloc2 w _ _)) (HB.out.below (below_alloc2 w _ _)) hl).mono ?_
  rintro e w' ⟨rfl, hB⟩
  have BB := hid ((below_alloc2 w _ _).trans (hB.mono (by simp; omega)))
  clear hB
  go_wp2
  go_ret
  exact ⟨rfl, BB.out⟩
theorem toKo (p : Int) (v : Value) (l : List Nat) (w : World) (h : Rd w v l) (hl : l.length ≤ 1048576) :
    Calls Try.prog 52 #[.agg #[.int .i64 p, v]] w fun e w' => ∃ g, e = .returned (.agg #[.int .i64 p, .slice (some ⟨g, 0, none⟩) l.length l.length]) ∧ OB w' w.heap.size w'.heap.size (.slice (some ⟨g, 0, none⟩) l.length l.length) l ∧ Below w.heap.size w w' :=
  (toK p v l w h hl).mono fun _ _ ⟨g, he, hO, hB⟩ => ⟨g, he, OB.of hO.x, hB⟩
end Go.Proofs.Ytifgcffifffdnam.W
