/-
  The exact law of NonceOf, out of the contracts of its callees.
-/
import Derived.Test.YtckgjghpfjinfakSlxWalks
namespace Go.Proofs.Ytckgjghpfjinfak.W
open Go.ChangeShapes Go.WideShapes Go.ChangeAt Go.RowKit
open Go.Proofs.Ytckgjghpfjinfak.M

set_option maxHeartbeats 4000000 in
set_option maxRecDepth 100000 in
theorem law_NonceOf (n0 n1 : Int) (c : Int) (l : List Nat) (w : World) (hl : l.length ≤ 1048576)
    (SP : Hid (∀ (w : World), Calls Try.prog 13 #[.int .i64 n0, .int .i64 n1] w fun e w' => ∃ v, e = .returned (.agg #[.int .i64 c, v]) ∧ Owx w' w.heap.size v l ∧ Below w.heap.size w w'))
    (IP : Hid (∀ (w : World), Calls Try.prog 14 #[.int .i64 n0, .int .i64 n1] w fun e w' => ∃ v, e = .returned (.agg #[.int .i64 c, v]) ∧ Owx w' w.heap.size v l ∧ Below w.heap.size w w')) :
    Calls Try.prog 4 #[.int .i64 n0, .int .i64 n1] w fun e w' => e = .returned (.bool true) ∧ Below w.heap.size w w' := by
  have hBel := Below.refl w.heap.size w
  go_enter Try.func4, Try.ntmps4
  go_wp2_with fail
  refine (SP.out _ ).mono ?_
  rintro e w1 ⟨v, rfl, OW, hB⟩
  obtain ⟨qOW, cOW, rfl, -, -, -⟩ := OW.rd.parts
  have hBel0OW := hBel
  have hBel := hBel.trans (hB.mono (by have := hBel.size; omega))
  clear hB
  go_wp2_with fail
  refine (IP.out _ ).mono ?_
  rintro e w2 ⟨v, rfl, OG, hB⟩
  obtain ⟨qOG, cOG, rfl, -, -, -⟩ := OG.rd.parts
  have hBel0OG := hBel
  have apOWOG := hid (OW.apart OG (by simp))
  have apOGOW := hid (OW.apart2 OG (by simp))
  have neVWOG := hid (OG.ne (g := w1.heap.size) (by simp))
  have neVWOW := hid (OW.ne_new (b := w1.heap.size) (Nat.le_refl _))
  have VW := var_below hB (heap_alloc_new w1 (.cells #[.int .i64 c, .slice qOW l.length cOW] 32))
  have hB := (below_alloc1 w1 _).trans (hB.mono (by simp))
  have OW := OW.below hB
  have hBel := hBel.trans (hB.mono (by have := hBel.size; omega))
  clear hB
  obtain ⟨fVW1, fVW2, -, -⟩ := var2_facts VW
  have sVW := var_lt VW
  go_wp2_with fail
  refine (eqBR c _ _ l _ (OG.below (below_alloc1 w2 _)).rd (OW.below (below_alloc1 w2 _)).rd hl).mono ?_
  rintro e w3 ⟨rfl, hB⟩
  clear fVW1 fVW2 sVW
  have neVGOW := hid (OW.ne_new (b := w2.heap.size) (Nat.le_refl _))
  have neVGOG := hid (OG.ne_new (b := w2.heap.size) (Nat.le_refl _))
  have VG := var_below hB (heap_alloc_new w2 (.cells #[.int .i64 c, .slice qOG l.length cOG] 32))
  have hB := (below_alloc1 w2 _).trans (hB.mono (by simp))
  have VW := var_below hB VW
  have OW := OW.below hB
  have OG := OG.below hB
  have hBel := hBel.trans (hB.mono (by have := hBel.size; omega))
  clear hB
  obtain ⟨fVW1, fVW2, -, -⟩ := var2_facts VW
  have sVW := var_lt VW
  obtain ⟨fVG1, fVG2, -, -⟩ := var2_facts VG
  have sVG := var_lt VG
  go_wp2_with fail
  refine (markBR1x c _ l _ _ OG hl).mono ?_
  rintro e w4 ⟨rfl, OM, hG⟩
  clear fVW1 fVW2 sVW fVG1 fVG2 sVG
  have hBg := below_of_grown (B := w.heap.size) hG (by have := hBel.size; omega) (OG.row (by have := hBel0OG.size; first | omega | (simp; omega)))
  have VW := var_grown hG VW neVWOG.out
  have VG := var_grown hG VG neVGOG.out
  have OW := OW.kept hG apOWOG.out
  have hBel := hBel.trans hBg
  clear hBg hG
  clear OG
  have apOWOM := apOWOG
  have apOMOW := apOGOW
  obtain ⟨fVW1, fVW2, -, -⟩ := var2_facts VW
  have sVW := var_lt VW
  obtain ⟨fVG1, fVG2, -, -⟩ := var2_facts VG
  have sVG := var_lt VG
  go_wp2_with fail
  refine (heldBR1 c _ l.length _ OM.rd hl).mono ?_
  rintro e w5 ⟨rfl, hB⟩
  clear fVW1 fVW2 sVW fVG1 fVG2 sVG
  have VW := var_below hB VW
  have VG := var_below hB VG
  have OW := OW.below hB
  have OM := OM.below hB
  have hBel := hBel.trans (hB.mono (by have := hBel.size; omega))
  clear hB
  obtain ⟨fVW1, fVW2, -, -⟩ := var2_facts VW
  have sVW := var_lt VW
  obtain ⟨fVG1, fVG2, -, -⟩ := var2_facts VG
  have sVG := var_lt VG
  go_wp2_with fail
  refine (IP.out _ ).mono ?_
  rintro e w6 ⟨v, rfl, OH, hB⟩
  obtain ⟨qOH, cOH, rfl, -, -, -⟩ := OH.rd.parts
  have hBel0OH := hBel
  clear fVW1 fVW2 sVW fVG1 fVG2 sVG
  have apOWOH := hid (OW.apart OH (by simp))
  have apOHOW := hid (OW.apart2 OH (by simp))
  have apOMOH := hid (OM.apart OH (by simp))
  have apOHOM := hid (OM.apart2 OH (by simp))
  have neVWOH := hid (OH.ne (g := w1.heap.size) (by have := var_lt VW; simp; omega))
  have neVGOH := hid (OH.ne (g := w2.heap.size) (by have := var_lt VG; simp; omega))
  have VW := var_below hB VW
  have VG := var_below hB VG
  have OW := OW.below hB
  have OM := OM.below hB
  have hBel := hBel.trans (hB.mono (by have := hBel.size; omega))
  clear hB
  obtain ⟨fVW1, fVW2, -, -⟩ := var2_facts VW
  have sVW := var_lt VW
  obtain ⟨fVG1, fVG2, -, -⟩ := var2_facts VG
  have sVG := var_lt VG
  go_wp2_with fail
  refine (eqBR c _ _ l _ (OH.below (below_alloc1 w6 _)).rd (OW.below (below_alloc1 w6 _)).rd hl).mono ?_
  rintro e w7 ⟨rfl, hB⟩
  clear fVW1 fVW2 sVW fVG1 fVG2 sVG
  have neVHOW := hid (OW.ne_new (b := w6.heap.size) (Nat.le_refl _))
  have neVHOM := hid (OM.ne_new (b := w6.heap.size) (Nat.le_refl _))
  have neVHOH := hid (OH.ne_new (b := w6.heap.size) (Nat.le_refl _))
  have VH := var_below hB (heap_alloc_new w6 (.cells #[.int .i64 c, .slice qOH l.length cOH] 32))
  have hB := (below_alloc1 w6 _).trans (hB.mono (by simp))
  have VW := var_below hB VW
  have VG := var_below hB VG
  have OW := OW.below hB
  have OM := OM.below hB
  have OH := OH.below hB
  have hBel := hBel.trans (hB.mono (by have := hBel.size; omega))
  clear hB
  obtain ⟨fVW1, fVW2, -, -⟩ := var2_facts VW
  have sVW := var_lt VW
  obtain ⟨fVG1, fVG2, -, -⟩ := var2_facts VG
  have sVG := var_lt VG
  obtain ⟨fVH1, fVH2, -, -⟩ := var2_facts VH
  have sVH := var_lt VH
  go_wp2_with fail
  refine (heldBR1 c _ l.length _ OM.rd hl).mono ?_
  rintro e w8 ⟨rfl, hB⟩
  clear fVW1 fVW2 sVW fVG1 fVG2 sVG fVH1 fVH2 sVH
  have VW := var_below hB VW
  have VG := var_below hB VG
  have VH := var_below hB VH
  have OW := OW.below hB
  have OM := OM.below hB
  have OH := OH.below hB
  have hBel := hBel.trans (hB.mono (by have := hBel.size; omega))
  clear hB
  obtain ⟨fVW1, fVW2, -, -⟩ := var2_facts VW
  have sVW := var_lt VW
  obtain ⟨fVG1, fVG2, -, -⟩ := var2_facts VG
  have sVG := var_lt VG
  obtain ⟨fVH1, fVH2, -, -⟩ := var2_facts VH
  have sVH := var_lt VH
  go_wp2
  go_ret
  exact ⟨rfl, hBel⟩
end Go.Proofs.Ytckgjghpfjinfak.W
