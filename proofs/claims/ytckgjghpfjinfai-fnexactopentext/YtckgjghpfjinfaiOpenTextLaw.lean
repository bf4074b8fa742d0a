/-
  The exact law of OpenText, out of the contracts of its callees.
-/
import Derived.Test.YtckgjghpfjinfaiSlxWalks
namespace Go.Proofs.Ytckgjghpfjinfai.W
open Go.ChangeShapes Go.WideShapes Go.ChangeAt Go.RowKit
open Go.Proofs.Ytckgjghpfjinfai.M

set_option maxHeartbeats 4000000 in
set_option maxRecDepth 100000 in
theorem law_OpenText (l0 l1 l2 l3 : List Nat) (c : Int) (l : List Nat) (a0 a1 a2 a3 : Value) (w : World) (hl : l.length ≤ 1048576)
    (h0 : Rd w a0 l0)
    (h1 : Rd w a1 l1)
    (h2 : Rd w a2 l2)
    (h3 : Rd w a3 l3)
    (SP : Hid (∀ (w : World) (v0 v1 v2 v3 : Value), Rd w v0 l0 → Rd w v1 l1 → Rd w v2 l2 → Rd w v3 l3 → Calls Try.prog 21 #[v0, v1, v2, v3] w fun e w' => ∃ v, e = .returned (.agg #[.int .i64 c, v]) ∧ Owx w' w.heap.size v l ∧ Below w.heap.size w w'))
    (IP : Hid (∀ (w : World) (v0 v1 v2 v3 : Value), Rd w v0 l0 → Rd w v1 l1 → Rd w v2 l2 → Rd w v3 l3 → Calls Try.prog 22 #[v0, v1, v2, v3] w fun e w' => ∃ v, e = .returned (.agg #[.int .i64 c, v]) ∧ Owx w' w.heap.size v l ∧ Below w.heap.size w w')) :
    Calls Try.prog 6 #[a0, a1, a2, a3] w fun e w' => e = .returned (.bool true) ∧ Below w.heap.size w w' := by
  obtain ⟨p0, cap0, rfl, _, _, _⟩ := h0.parts
  obtain ⟨p1, cap1, rfl, _, _, _⟩ := h1.parts
  obtain ⟨p2, cap2, rfl, _, _, _⟩ := h2.parts
  obtain ⟨p3, cap3, rfl, _, _, _⟩ := h3.parts
  by_cases z0 : l0.length ≤ 1048576
  case neg =>
    go_enter Try.func6, Try.ntmps6
    go_wp2
    go_ret
    exact ⟨rfl, Below.refl _ _⟩
  by_cases z1 : l1.length ≤ 1048576
  case neg =>
    go_enter Try.func6, Try.ntmps6
    go_wp2
    go_ret
    exact ⟨rfl, Below.refl _ _⟩
  by_cases z2 : l2.length ≤ 1048576
  case neg =>
    go_enter Try.func6, Try.ntmps6
    go_wp2
    go_ret
    exact ⟨rfl, Below.refl _ _⟩
  by_cases z3 : l3.length ≤ 1048576
  case neg =>
    go_enter Try.func6, Try.ntmps6
    go_wp2
    go_ret
    exact ⟨rfl, Below.refl _ _⟩
  have hBel := Below.refl w.heap.size w
  have Z0 := hid h0
  clear h0
  have Z1 := hid h1
  clear h1
  have Z2 := hid h2
  clear h2
  have Z3 := hid h3
  clear h3
  go_enter Try.func6, Try.ntmps6
  go_wp2_with fail
  refine (toB _ l0 _ (Z0.out.below hBel) z0).mono ?_
  rintro e w1 ⟨rfl, T0, hB⟩
  replace T0 := T0.x
  have hBel0T0 := hBel
  have hBel := hBel.trans (hB.mono (by have := hBel.size; omega))
  clear hB
  go_wp2_with fail
  refine (toB _ l1 _ (Z1.out.below hBel) z1).mono ?_
  rintro e w2 ⟨rfl, T1, hB⟩
  replace T1 := T1.x
  have hBel0T1 := hBel
  have apT0T1 := hid (T0.apart T1 (by simp))
  have apT1T0 := hid (T0.apart2 T1 (by simp))
  have T0 := T0.below hB
  have hBel := hBel.trans (hB.mono (by have := hBel.size; omega))
  clear hB
  go_wp2_with fail
  refine (toB _ l2 _ (Z2.out.below hBel) z2).mono ?_
  rintro e w3 ⟨rfl, T2, hB⟩
  replace T2 := T2.x
  have hBel0T2 := hBel
  have apT0T2 := hid (T0.apart T2 (by simp))
  have apT2T0 := hid (T0.apart2 T2 (by simp))
  have apT1T2 := hid (T1.apart T2 (by simp))
  have apT2T1 := hid (T1.apart2 T2 (by simp))
  have T0 := T0.below hB
  have T1 := T1.below hB
  have hBel := hBel.trans (hB.mono (by have := hBel.size; omega))
  clear hB
  go_wp2_with fail
  refine (toB _ l3 _ (Z3.out.below hBel) z3).mono ?_
  rintro e w4 ⟨rfl, T3, hB⟩
  replace T3 := T3.x
  have hBel0T3 := hBel
  have apT0T3 := hid (T0.apart T3 (by simp))
  have apT3T0 := hid (T0.apart2 T3 (by simp))
  have apT1T3 := hid (T1.apart T3 (by simp))
  have apT3T1 := hid (T1.apart2 T3 (by simp))
  have apT2T3 := hid (T2.apart T3 (by simp))
  have apT3T2 := hid (T2.apart2 T3 (by simp))
  have T0 := T0.below hB
  have T1 := T1.below hB
  have T2 := T2.below hB
  have hBel := hBel.trans (hB.mono (by have := hBel.size; omega))
  clear hB
  go_wp2_with fail
  refine (SP.out _ _ _ _ _ T0.rd T1.rd T2.rd T3.rd).mono ?_
  rintro e w5 ⟨v, rfl, OW, hB⟩
  obtain ⟨qOW, cOW, rfl, -, -, -⟩ := OW.rd.parts
  have hBel0OW := hBel
  have apT0OW := hid (T0.apart OW (by simp))
  have apOWT0 := hid (T0.apart2 OW (by simp))
  have apT1OW := hid (T1.apart OW (by simp))
  have apOWT1 := hid (T1.apart2 OW (by simp))
  have apT2OW := hid (T2.apart OW (by simp))
  have apOWT2 := hid (T2.apart2 OW (by simp))
  have apT3OW := hid (T3.apart OW (by simp))
  have apOWT3 := hid (T3.apart2 OW (by simp))
  have T0 := T0.below hB
  have T1 := T1.below hB
  have T2 := T2.below hB
  have T3 := T3.below hB
  have hBel := hBel.trans (hB.mono (by have := hBel.size; omega))
  clear hB
  clear T0
  clear T1
  clear T2
  clear T3
  go_wp2_with fail
  refine (toB _ l0 _ ((Z0.out.below hBel).below (below_alloc1 w5 _)) z0).mono ?_
  rintro e w6 ⟨rfl, X0, hB⟩
  simp only [World.size_alloc] at X0
  replace X0 := X0.x
  have hBel0X0 := hBel
  have apOWX0 := hid (OW.apart X0 (by simp))
  have apX0OW := hid (OW.apart2 X0 (by simp))
  have neVWX0 := hid (X0.ne (g := w5.heap.size) (by simp))
  have neVWOW := hid (OW.ne_new (b := w5.heap.size) (Nat.le_refl _))
  have VW := var_below hB (heap_alloc_new w5 (.cells #[.int .i64 c, .slice qOW l.length cOW] 24))
  have hB := (below_alloc1 w5 _).trans (hB.mono (by simp))
  have OW := OW.below hB
  have hBel := hBel.trans (hB.mono (by have := hBel.size; omega))
  clear hB
  obtain ⟨fVW1, fVW2, -, -⟩ := var2_facts VW
  have sVW := var_lt VW
  go_wp2_with fail
  refine (toB _ l1 _ (Z1.out.below hBel) z1).mono ?_
  rintro e w7 ⟨rfl, X1, hB⟩
  replace X1 := X1.x
  have hBel0X1 := hBel
  clear fVW1 fVW2 sVW
  have apOWX1 := hid (OW.apart X1 (by simp))
  have apX1OW := hid (OW.apart2 X1 (by simp))
  have apX0X1 := hid (X0.apart X1 (by simp))
  have apX1X0 := hid (X0.apart2 X1 (by simp))
  have neVWX1 := hid (X1.ne (g := w5.heap.size) (by have := var_lt VW; simp; omega))
  have VW := var_below hB VW
  have OW := OW.below hB
  have X0 := X0.below hB
  have hBel := hBel.trans (hB.mono (by have := hBel.size; omega))
  clear hB
  obtain ⟨fVW1, fVW2, -, -⟩ := var2_facts VW
  have sVW := var_lt VW
  go_wp2_with fail
  refine (toB _ l2 _ (Z2.out.below hBel) z2).mono ?_
  rintro e w8 ⟨rfl, X2, hB⟩
  replace X2 := X2.x
  have hBel0X2 := hBel
  clear fVW1 fVW2 sVW
  have apOWX2 := hid (OW.apart X2 (by simp))
  have apX2OW := hid (OW.apart2 X2 (by simp))
  have apX0X2 := hid (X0.apart X2 (by simp))
  have apX2X0 := hid (X0.apart2 X2 (by simp))
  have apX1X2 := hid (X1.apart X2 (by simp))
  have apX2X1 := hid (X1.apart2 X2 (by simp))
  have neVWX2 := hid (X2.ne (g := w5.heap.size) (by have := var_lt VW; simp; omega))
  have VW := var_below hB VW
  have OW := OW.below hB
  have X0 := X0.below hB
  have X1 := X1.below hB
  have hBel := hBel.trans (hB.mono (by have := hBel.size; omega))
  clear hB
  obtain ⟨fVW1, fVW2, -, -⟩ := var2_facts VW
  have sVW := var_lt VW
  go_wp2_with fail
  refine (toB _ l3 _ (Z3.out.below hBel) z3).mono ?_
  rintro e w9 ⟨rfl, X3, hB⟩
  replace X3 := X3.x
  have hBel0X3 := hBel
  clear fVW1 fVW2 sVW
  have apOWX3 := hid (OW.apart X3 (by simp))
  have apX3OW := hid (OW.apart2 X3 (by simp))
  have apX0X3 := hid (X0.apart X3 (by simp))
  have apX3X0 := hid (X0.apart2 X3 (by simp))
  have apX1X3 := hid (X1.apart X3 (by simp))
  have apX3X1 := hid (X1.apart2 X3 (by simp))
  have apX2X3 := hid (X2.apart X3 (by simp))
  have apX3X2 := hid (X2.apart2 X3 (by simp))
  have neVWX3 := hid (X3.ne (g := w5.heap.size) (by have := var_lt VW; simp; omega))
  have VW := var_below hB VW
  have OW := OW.below hB
  have X0 := X0.below hB
  have X1 := X1.below hB
  have X2 := X2.below hB
  have hBel := hBel.trans (hB.mono (by have := hBel.size; omega))
  clear hB
  obtain ⟨fVW1, fVW2, -, -⟩ := var2_facts VW
  have sVW := var_lt VW
  go_wp2_with fail
  refine (IP.out _ _ _ _ _ X0.rd X1.rd X2.rd X3.rd).mono ?_
  rintro e w10 ⟨v, rfl, OG, hB⟩
  obtain ⟨qOG, cOG, rfl, -, -, -⟩ := OG.rd.parts
  have hBel0OG := hBel
  clear fVW1 fVW2 sVW
  have apOWOG := hid (OW.apart OG (by simp))
  have apOGOW := hid (OW.apart2 OG (by simp))
  have apX0OG := hid (X0.apart OG (by simp))
  have apOGX0 := hid (X0.apart2 OG (by simp))
  have apX1OG := hid (X1.apart OG (by simp))
  have apOGX1 := hid (X1.apart2 OG (by simp))
  have apX2OG := hid (X2.apart OG (by simp))
  have apOGX2 := hid (X2.apart2 OG (by simp))
  have apX3OG := hid (X3.apart OG (by simp))
  have apOGX3 := hid (X3.apart2 OG (by simp))
  have neVWOG := hid (OG.ne (g := w5.heap.size) (by have := var_lt VW; simp; omega))
  have VW := var_below hB VW
  have OW := OW.below hB
  have X0 := X0.below hB
  have X1 := X1.below hB
  have X2 := X2.below hB
  have X3 := X3.below hB
  have hBel := hBel.trans (hB.mono (by have := hBel.size; omega))
  clear hB
  obtain ⟨fVW1, fVW2, -, -⟩ := var2_facts VW
  have sVW := var_lt VW
  go_wp2_with fail
  refine (eqBR c _ _ l _ (OG.below (below_alloc1 w10 _)).rd (OW.below (below_alloc1 w10 _)).rd hl).mono ?_
  rintro e w11 ⟨rfl, hB⟩
  clear fVW1 fVW2 sVW
  have neVGOW := hid (OW.ne_new (b := w10.heap.size) (Nat.le_refl _))
  have neVGX0 := hid (X0.ne_new (b := w10.heap.size) (Nat.le_refl _))
  have neVGX1 := hid (X1.ne_new (b := w10.heap.size) (Nat.le_refl _))
  have neVGX2 := hid (X2.ne_new (b := w10.heap.size) (Nat.le_refl _))
  have neVGX3 := hid (X3.ne_new (b := w10.heap.size) (Nat.le_refl _))
  have neVGOG := hid (OG.ne_new (b := w10.heap.size) (Nat.le_refl _))
  have VG := var_below hB (heap_alloc_new w10 (.cells #[.int .i64 c, .slice qOG l.length cOG] 24))
  have hB := (below_alloc1 w10 _).trans (hB.mono (by simp))
  have VW := var_below hB VW
  have OW := OW.below hB
  have X0 := X0.below hB
  have X1 := X1.below hB
  have X2 := X2.below hB
  have X3 := X3.below hB
  have OG := OG.below hB
  have hBel := hBel.trans (hB.mono (by have := hBel.size; omega))
  clear hB
  obtain ⟨fVW1, fVW2, -, -⟩ := var2_facts VW
  have sVW := var_lt VW
  obtain ⟨fVG1, fVG2, -, -⟩ := var2_facts VG
  have sVG := var_lt VG
  go_wp2_with fail
  refine (toB _ l0 _ (Z0.out.below hBel) z0).mono ?_
  rintro e w12 ⟨rfl, Y0, hB⟩
  replace Y0 := Y0.x
  have hBel0Y0 := hBel
  clear fVW1 fVW2 sVW fVG1 fVG2 sVG
  have apOWY0 := hid (OW.apart Y0 (by simp))
  have apY0OW := hid (OW.apart2 Y0 (by simp))
  have apX0Y0 := hid (X0.apart Y0 (by simp))
  have apY0X0 := hid (X0.apart2 Y0 (by simp))
  have apX1Y0 := hid (X1.apart Y0 (by simp))
  have apY0X1 := hid (X1.apart2 Y0 (by simp))
  have apX2Y0 := hid (X2.apart Y0 (by simp))
  have apY0X2 := hid (X2.apart2 Y0 (by simp))
  have apX3Y0 := hid (X3.apart Y0 (by simp))
  have apY0X3 := hid (X3.apart2 Y0 (by simp))
  have apOGY0 := hid (OG.apart Y0 (by simp))
  have apY0OG := hid (OG.apart2 Y0 (by simp))
  have neVWY0 := hid (Y0.ne (g := w5.heap.size) (by have := var_lt VW; simp; omega))
  have neVGY0 := hid (Y0.ne (g := w10.heap.size) (by have := var_lt VG; simp; omega))
  have VW := var_below hB VW
  have VG := var_below hB VG
  have OW := OW.below hB
  have X0 := X0.below hB
  have X1 := X1.below hB
  have X2 := X2.below hB
  have X3 := X3.below hB
  have OG := OG.below hB
  have hBel := hBel.trans (hB.mono (by have := hBel.size; omega))
  clear hB
  obtain ⟨fVW1, fVW2, -, -⟩ := var2_facts VW
  have sVW := var_lt VW
  obtain ⟨fVG1, fVG2, -, -⟩ := var2_facts VG
  have sVG := var_lt VG
  go_wp2_with fail
  refine (eqB _ _ l0 _ X0.rd Y0.rd z0).mono ?_
  rintro e w13 ⟨rfl, hB⟩
  clear fVW1 fVW2 sVW fVG1 fVG2 sVG
  have VW := var_below hB VW
  have VG := var_below hB VG
  have OW := OW.below hB
  have X0 := X0.below hB
  have X1 := X1.below hB
  have X2 := X2.below hB
  have X3 := X3.below hB
  have OG := OG.below hB
  have Y0 := Y0.below hB
  have hBel := hBel.trans (hB.mono (by have := hBel.size; omega))
  clear hB
  obtain ⟨fVW1, fVW2, -, -⟩ := var2_facts VW
  have sVW := var_lt VW
  obtain ⟨fVG1, fVG2, -, -⟩ := var2_facts VG
  have sVG := var_lt VG
  clear Y0
  go_wp2_with fail
  refine (toB _ l1 _ (Z1.out.below hBel) z1).mono ?_
  rintro e w14 ⟨rfl, Y1, hB⟩
  replace Y1 := Y1.x
  have hBel0Y1 := hBel
  clear fVW1 fVW2 sVW fVG1 fVG2 sVG
  have apOWY1 := hid (OW.apart Y1 (by simp))
  have apY1OW := hid (OW.apart2 Y1 (by simp))
  have apX0Y1 := hid (X0.apart Y1 (by simp))
  have apY1X0 := hid (X0.apart2 Y1 (by simp))
  have apX1Y1 := hid (X1.apart Y1 (by simp))
  have apY1X1 := hid (X1.apart2 Y1 (by simp))
  have apX2Y1 := hid (X2.apart Y1 (by simp))
  have apY1X2 := hid (X2.apart2 Y1 (by simp))
  have apX3Y1 := hid (X3.apart Y1 (by simp))
  have apY1X3 := hid (X3.apart2 Y1 (by simp))
  have apOGY1 := hid (OG.apart Y1 (by simp))
  have apY1OG := hid (OG.apart2 Y1 (by simp))
  have neVWY1 := hid (Y1.ne (g := w5.heap.size) (by have := var_lt VW; simp; omega))
  have neVGY1 := hid (Y1.ne (g := w10.heap.size) (by have := var_lt VG; simp; omega))
  have VW := var_below hB VW
  have VG := var_below hB VG
  have OW := OW.below hB
  have X0 := X0.below hB
  have X1 := X1.below hB
  have X2 := X2.below hB
  have X3 := X3.below hB
  have OG := OG.below hB
  have hBel := hBel.trans (hB.mono (by have := hBel.size; omega))
  clear hB
  obtain ⟨fVW1, fVW2, -, -⟩ := var2_facts VW
  have sVW := var_lt VW
  obtain ⟨fVG1, fVG2, -, -⟩ := var2_facts VG
  have sVG := var_lt VG
  go_wp2_with fail
  refine (eqB _ _ l1 _ X1.rd Y1.rd z1).mono ?_
  rintro e w15 ⟨rfl, hB⟩
  clear fVW1 fVW2 sVW fVG1 fVG2 sVG
  have VW := var_below hB VW
  have VG := var_below hB VG
  have OW := OW.below hB
  have X0 := X0.below hB
  have X1 := X1.below hB
  have X2 := X2.below hB
  have X3 := X3.below hB
  have OG := OG.below hB
  have Y1 := Y1.below hB
  have hBel := hBel.trans (hB.mono (by have := hBel.size; omega))
  clear hB
  obtain ⟨fVW1, fVW2, -, -⟩ := var2_facts VW
  have sVW := var_lt VW
  obtain ⟨fVG1, fVG2, -, -⟩ := var2_facts VG
  have sVG := var_lt VG
  clear Y1
  go_wp2_with fail
  refine (toB _ l2 _ (Z2.out.below hBel) z2).mono ?_
  rintro e w16 ⟨rfl, Y2, hB⟩
  replace Y2 := Y2.x
  have hBel0Y2 := hBel
  clear fVW1 fVW2 sVW fVG1 fVG2 sVG
  have apOWY2 := hid (OW.apart Y2 (by simp))
  have apY2OW := hid (OW.apart2 Y2 (by simp))
  have apX0Y2 := hid (X0.apart Y2 (by simp))
  have apY2X0 := hid (X0.apart2 Y2 (by simp))
  have apX1Y2 := hid (X1.apart Y2 (by simp))
  have apY2X1 := hid (X1.apart2 Y2 (by simp))
  have apX2Y2 := hid (X2.apart Y2 (by simp))
  have apY2X2 := hid (X2.apart2 Y2 (by simp))
  have apX3Y2 := hid (X3.apart Y2 (by simp))
  have apY2X3 := hid (X3.apart2 Y2 (by simp))
  have apOGY2 := hid (OG.apart Y2 (by simp))
  have apY2OG := hid (OG.apart2 Y2 (by simp))
  have neVWY2 := hid (Y2.ne (g := w5.heap.size) (by have := var_lt VW; simp; omega))
  have neVGY2 := hid (Y2.ne (g := w10.heap.size) (by have := var_lt VG; simp; omega))
  have VW := var_below hB VW
  have VG := var_below hB VG
  have OW := OW.below hB
  have X0 := X0.below hB
  have X1 := X1.below hB
  have X2 := X2.below hB
  have X3 := X3.below hB
  have OG := OG.below hB
  have hBel := hBel.trans (hB.mono (by have := hBel.size; omega))
  clear hB
  obtain ⟨fVW1, fVW2, -, -⟩ := var2_facts VW
  have sVW := var_lt VW
  obtain ⟨fVG1, fVG2, -, -⟩ := var2_facts VG
  have sVG := var_lt VG
  go_wp2_with fail
  refine (eqB _ _ l2 _ X2.rd Y2.rd z2).mono ?_
  rintro e w17 ⟨rfl, hB⟩
  clear fVW1 fVW2 sVW fVG1 fVG2 sVG
  have VW := var_below hB VW
  have VG := var_below hB VG
  have OW := OW.below hB
  have X0 := X0.below hB
  have X1 := X1.below hB
  have X2 := X2.below hB
  have X3 := X3.below hB
  have OG := OG.below hB
  have Y2 := Y2.below hB
  have hBel := hBel.trans (hB.mono (by have := hBel.size; omega))
  clear hB
  obtain ⟨fVW1, fVW2, -, -⟩ := var2_facts VW
  have sVW := var_lt VW
  obtain ⟨fVG1, fVG2, -, -⟩ := var2_facts VG
  have sVG := var_lt VG
  clear Y2
  go_wp2_with fail
  refine (toB _ l3 _ (Z3.out.below hBel) z3).mono ?_
  rintro e w18 ⟨rfl, Y3, hB⟩
  replace Y3 := Y3.x
  have hBel0Y3 := hBel
  clear fVW1 fVW2 sVW fVG1 fVG2 sVG
  have apOWY3 := hid (OW.apart Y3 (by simp))
  have apY3OW := hid (OW.apart2 Y3 (by simp))
  have apX0Y3 := hid (X0.apart Y3 (by simp))
  have apY3X0 := hid (X0.apart2 Y3 (by simp))
  have apX1Y3 := hid (X1.apart Y3 (by simp))
  have apY3X1 := hid (X1.apart2 Y3 (by simp))
  have apX2Y3 := hid (X2.apart Y3 (by simp))
  have apY3X2 := hid (X2.apart2 Y3 (by simp))
  have apX3Y3 := hid (X3.apart Y3 (by simp))
  have apY3X3 := hid (X3.apart2 Y3 (by simp))
  have apOGY3 := hid (OG.apart Y3 (by simp))
  have apY3OG := hid (OG.apart2 Y3 (by simp))
  have neVWY3 := hid (Y3.ne (g := w5.heap.size) (by have := var_lt VW; simp; omega))
  have neVGY3 := hid (Y3.ne (g := w10.heap.size) (by have := var_lt VG; simp; omega))
  have VW := var_below hB VW
  have VG := var_below hB VG
  have OW := OW.below hB
  have X0 := X0.below hB
  have X1 := X1.below hB
  have X2 := X2.below hB
  have X3 := X3.below hB
  have OG := OG.below hB
  have hBel := hBel.trans (hB.mono (by have := hBel.size; omega))
  clear hB
  obtain ⟨fVW1, fVW2, -, -⟩ := var2_facts VW
  have sVW := var_lt VW
  obtain ⟨fVG1, fVG2, -, -⟩ := var2_facts VG
  have sVG := var_lt VG
  go_wp2_with fail
  refine (eqB _ _ l3 _ X3.rd Y3.rd z3).mono ?_
  rintro e w19 ⟨rfl, hB⟩
  clear fVW1 fVW2 sVW fVG1 fVG2 sVG
  have VW := var_below hB VW
  have VG := var_below hB VG
  have OW := OW.below hB
  have X0 := X0.below hB
  have X1 := X1.below hB
  have X2 := X2.below hB
  have X3 := X3.below hB
  have OG := OG.below hB
  have Y3 := Y3.below hB
  have hBel := hBel.trans (hB.mono (by have := hBel.size; omega))
  clear hB
  obtain ⟨fVW1, fVW2, -, -⟩ := var2_facts VW
  have sVW := var_lt VW
  obtain ⟨fVG1, fVG2, -, -⟩ := var2_facts VG
  have sVG := var_lt VG
  clear Y3
  go_wp2_with fail
  refine (markB1x _ l0 _ _ X0 z0).mono ?_
  rintro e w20 ⟨rfl, M0, hG⟩
  clear fVW1 fVW2 sVW fVG1 fVG2 sVG
  have hBg := below_of_grown (B := w.heap.size) hG (by have := hBel.size; omega) (X0.row (by have := hBel0X0.size; first | omega | (simp; omega)))
  have VW := var_grown hG VW neVWX0.out
  have VG := var_grown hG VG neVGX0.out
  have OW := OW.kept hG apOWX0.out
  have X1 := X1.kept hG apX1X0.out
  have X2 := X2.kept hG apX2X0.out
  have X3 := X3.kept hG apX3X0.out
  have OG := OG.kept hG apOGX0.out
  have hBel := hBel.trans hBg
  clear hBg hG
  clear X0
  clear M0
  obtain ⟨fVW1, fVW2, -, -⟩ := var2_facts VW
  have sVW := var_lt VW
  obtain ⟨fVG1, fVG2, -, -⟩ := var2_facts VG
  have sVG := var_lt VG
  go_wp2_with fail
  have MK := markBx _ l1 (1 + l0.length) _ _ X1 z1 (by omega)
  simp only [Int.natCast_add, one_cast] at MK
  refine MK.mono ?_
  rintro e w21 ⟨rfl, M1, hG⟩
  clear MK
  clear fVW1 fVW2 sVW fVG1 fVG2 sVG
  have hBg := below_of_grown (B := w.heap.size) hG (by have := hBel.size; omega) (X1.row (by have := hBel0X1.size; first | omega | (simp; omega)))
  have VW := var_grown hG VW neVWX1.out
  have VG := var_grown hG VG neVGX1.out
  have OW := OW.kept hG apOWX1.out
  have X2 := X2.kept hG apX2X1.out
  have X3 := X3.kept hG apX3X1.out
  have OG := OG.kept hG apOGX1.out
  have hBel := hBel.trans hBg
  clear hBg hG
  clear X1
  clear M1
  obtain ⟨fVW1, fVW2, -, -⟩ := var2_facts VW
  have sVW := var_lt VW
  obtain ⟨fVG1, fVG2, -, -⟩ := var2_facts VG
  have sVG := var_lt VG
  go_wp2_with fail
  have MK := markBx _ l2 (1 + l0.length + l1.length) _ _ X2 z2 (by omega)
  simp only [Int.natCast_add, one_cast] at MK
  refine MK.mono ?_
  rintro e w22 ⟨rfl, M2, hG⟩
  clear MK
  clear fVW1 fVW2 sVW fVG1 fVG2 sVG
  have hBg := below_of_grown (B := w.heap.size) hG (by have := hBel.size; omega) (X2.row (by have := hBel0X2.size; first | omega | (simp; omega)))
  have VW := var_grown hG VW neVWX2.out
  have VG := var_grown hG VG neVGX2.out
  have OW := OW.kept hG apOWX2.out
  have X3 := X3.kept hG apX3X2.out
  have OG := OG.kept hG apOGX2.out
  have hBel := hBel.trans hBg
  clear hBg hG
  clear X2
  clear M2
  obtain ⟨fVW1, fVW2, -, -⟩ := var2_facts VW
  have sVW := var_lt VW
  obtain ⟨fVG1, fVG2, -, -⟩ := var2_facts VG
  have sVG := var_lt VG
  go_wp2_with fail
  have MK := markBx _ l3 (1 + l0.length + l1.length + l2.length) _ _ X3 z3 (by omega)
  simp only [Int.natCast_add, one_cast] at MK
  refine MK.mono ?_
  rintro e w23 ⟨rfl, M3, hG⟩
  clear MK
  clear fVW1 fVW2 sVW fVG1 fVG2 sVG
  have hBg := below_of_grown (B := w.heap.size) hG (by have := hBel.size; omega) (X3.row (by have := hBel0X3.size; first | omega | (simp; omega)))
  have VW := var_grown hG VW neVWX3.out
  have VG := var_grown hG VG neVGX3.out
  have OW := OW.kept hG apOWX3.out
  have OG := OG.kept hG apOGX3.out
  have hBel := hBel.trans hBg
  clear hBg hG
  clear X3
  clear M3
  obtain ⟨fVW1, fVW2, -, -⟩ := var2_facts VW
  have sVW := var_lt VW
  obtain ⟨fVG1, fVG2, -, -⟩ := var2_facts VG
  have sVG := var_lt VG
  have hk0 : decide ((1 : Int) + (l0.length : Int) + (l1.length : Int) + (l2.length : Int) + (l3.length : Int) < 0) = false := decide_eq_false (by omega)
  go_wp2_with fail
  refine (eqBR c _ _ l _ OG.rd OW.rd hl).mono ?_
  rintro e w24 ⟨rfl, hB⟩
  clear fVW1 fVW2 sVW fVG1 fVG2 sVG
  have VW := var_below hB VW
  have VG := var_below hB VG
  have OW := OW.below hB
  have OG := OG.below hB
  have hBel := hBel.trans (hB.mono (by have := hBel.size; omega))
  clear hB
  obtain ⟨fVW1, fVW2, -, -⟩ := var2_facts VW
  have sVW := var_lt VW
  obtain ⟨fVG1, fVG2, -, -⟩ := var2_facts VG
  have sVG := var_lt VG
  clear hk0
  go_wp2_with fail
  refine (markBR1x c _ l _ _ OG hl).mono ?_
  rintro e w25 ⟨rfl, OM, hG⟩
  clear fVW1 fVW2 sVW fVG1 fVG2 sVG
  have hBg := below_of_grown (B := w.heap.size) hG (by have := hBel.size; omega) (OG.row (by have := hBel0OG.size; first | omega | (simp; omega)))
  have VW := var_grown hG VW neVWOG.out
  have VG := var_grown hG VG neVGOG.out
  have OW := OW.kept hG apOWOG.out
  have hBel := hBel.trans hBg
  clear hBg hG
  clear OG
  have apOWOM := apOWOG
  have apOMOW := apOGOW
  obtain ⟨fVW1, fVW2, -, -⟩ := var2_facts VW
  have sVW := var_lt VW
  obtain ⟨fVG1, fVG2, -, -⟩ := var2_facts VG
  have sVG := var_lt VG
  go_wp2_with fail
  refine (heldBR1 c _ l.length _ OM.rd hl).mono ?_
  rintro e w26 ⟨rfl, hB⟩
  clear fVW1 fVW2 sVW fVG1 fVG2 sVG
  have VW := var_below hB VW
  have VG := var_below hB VG
  have OW := OW.below hB
  have OM := OM.below hB
  have hBel := hBel.trans (hB.mono (by have := hBel.size; omega))
  clear hB
  obtain ⟨fVW1, fVW2, -, -⟩ := var2_facts VW
  have sVW := var_lt VW
  obtain ⟨fVG1, fVG2, -, -⟩ := var2_facts VG
  have sVG := var_lt VG
  go_wp2_with fail
  refine (toB _ l0 _ (Z0.out.below hBel) z0).mono ?_
  rintro e w27 ⟨rfl, U0, hB⟩
  replace U0 := U0.x
  have hBel0U0 := hBel
  clear fVW1 fVW2 sVW fVG1 fVG2 sVG
  have apOWU0 := hid (OW.apart U0 (by simp))
  have apU0OW := hid (OW.apart2 U0 (by simp))
  have apOMU0 := hid (OM.apart U0 (by simp))
  have apU0OM := hid (OM.apart2 U0 (by simp))
  have neVWU0 := hid (U0.ne (g := w5.heap.size) (by have := var_lt VW; simp; omega))
  have neVGU0 := hid (U0.ne (g := w10.heap.size) (by have := var_lt VG; simp; omega))
  have VW := var_below hB VW
  have VG := var_below hB VG
  have OW := OW.below hB
  have OM := OM.below hB
  have hBel := hBel.trans (hB.mono (by have := hBel.size; omega))
  clear hB
  obtain ⟨fVW1, fVW2, -, -⟩ := var2_facts VW
  have sVW := var_lt VW
  obtain ⟨fVG1, fVG2, -, -⟩ := var2_facts VG
  have sVG := var_lt VG
  go_wp2_with fail
  refine (toB _ l1 _ (Z1.out.below hBel) z1).mono ?_
  rintro e w28 ⟨rfl, U1, hB⟩
  replace U1 := U1.x
  have hBel0U1 := hBel
  clear fVW1 fVW2 sVW fVG1 fVG2 sVG
  have apOWU1 := hid (OW.apart U1 (by simp))
  have apU1OW := hid (OW.apart2 U1 (by simp))
  have apOMU1 := hid (OM.apart U1 (by simp))
  have apU1OM := hid (OM.apart2 U1 (by simp))
  have apU0U1 := hid (U0.apart U1 (by simp))
  have apU1U0 := hid (U0.apart2 U1 (by simp))
  have neVWU1 := hid (U1.ne (g := w5.heap.size) (by have := var_lt VW; simp; omega))
  have neVGU1 := hid (U1.ne (g := w10.heap.size) (by have := var_lt VG; simp; omega))
  have VW := var_below hB VW
  have VG := var_below hB VG
  have OW := OW.below hB
  have OM := OM.below hB
  have U0 := U0.below hB
  have hBel := hBel.trans (hB.mono (by have := hBel.size; omega))
  clear hB
  obtain ⟨fVW1, fVW2, -, -⟩ := var2_facts VW
  have sVW := var_lt VW
  obtain ⟨fVG1, fVG2, -, -⟩ := var2_facts VG
  have sVG := var_lt VG
  go_wp2_with fail
  refine (toB _ l2 _ (Z2.out.below hBel) z2).mono ?_
  rintro e w29 ⟨rfl, U2, hB⟩
  replace U2 := U2.x
  have hBel0U2 := hBel
  clear fVW1 fVW2 sVW fVG1 fVG2 sVG
  have apOWU2 := hid (OW.apart U2 (by simp))
  have apU2OW := hid (OW.apart2 U2 (by simp))
  have apOMU2 := hid (OM.apart U2 (by simp))
  have apU2OM := hid (OM.apart2 U2 (by simp))
  have apU0U2 := hid (U0.apart U2 (by simp))
  have apU2U0 := hid (U0.apart2 U2 (by simp))
  have apU1U2 := hid (U1.apart U2 (by simp))
  have apU2U1 := hid (U1.apart2 U2 (by simp))
  have neVWU2 := hid (U2.ne (g := w5.heap.size) (by have := var_lt VW; simp; omega))
  have neVGU2 := hid (U2.ne (g := w10.heap.size) (by have := var_lt VG; simp; omega))
  have VW := var_below hB VW
  have VG := var_below hB VG
  have OW := OW.below hB
  have OM := OM.below hB
  have U0 := U0.below hB
  have U1 := U1.below hB
  have hBel := hBel.trans (hB.mono (by have := hBel.size; omega))
  clear hB
  obtain ⟨fVW1, fVW2, -, -⟩ := var2_facts VW
  have sVW := var_lt VW
  obtain ⟨fVG1, fVG2, -, -⟩ := var2_facts VG
  have sVG := var_lt VG
  go_wp2_with fail
  refine (toB _ l3 _ (Z3.out.below hBel) z3).mono ?_
  rintro e w30 ⟨rfl, U3, hB⟩
  replace U3 := U3.x
  have hBel0U3 := hBel
  clear fVW1 fVW2 sVW fVG1 fVG2 sVG
  have apOWU3 := hid (OW.apart U3 (by simp))
  have apU3OW := hid (OW.apart2 U3 (by simp))
  have apOMU3 := hid (OM.apart U3 (by simp))
  have apU3OM := hid (OM.apart2 U3 (by simp))
  have apU0U3 := hid (U0.apart U3 (by simp))
  have apU3U0 := hid (U0.apart2 U3 (by simp))
  have apU1U3 := hid (U1.apart U3 (by simp))
  have apU3U1 := hid (U1.apart2 U3 (by simp))
  have apU2U3 := hid (U2.apart U3 (by simp))
  have apU3U2 := hid (U2.apart2 U3 (by simp))
  have neVWU3 := hid (U3.ne (g := w5.heap.size) (by have := var_lt VW; simp; omega))
  have neVGU3 := hid (U3.ne (g := w10.heap.size) (by have := var_lt VG; simp; omega))
  have VW := var_below hB VW
  have VG := var_below hB VG
  have OW := OW.below hB
  have OM := OM.below hB
  have U0 := U0.below hB
  have U1 := U1.below hB
  have U2 := U2.below hB
  have hBel := hBel.trans (hB.mono (by have := hBel.size; omega))
  clear hB
  obtain ⟨fVW1, fVW2, -, -⟩ := var2_facts VW
  have sVW := var_lt VW
  obtain ⟨fVG1, fVG2, -, -⟩ := var2_facts VG
  have sVG := var_lt VG
  go_wp2_with fail
  refine (IP.out _ _ _ _ _ U0.rd U1.rd U2.rd U3.rd).mono ?_
  rintro e w31 ⟨v, rfl, OH, hB⟩
  obtain ⟨qOH, cOH, rfl, -, -, -⟩ := OH.rd.parts
  have hBel0OH := hBel
  clear fVW1 fVW2 sVW fVG1 fVG2 sVG
  have apOWOH := hid (OW.apart OH (by simp))
  have apOHOW := hid (OW.apart2 OH (by simp))
  have apOMOH := hid (OM.apart OH (by simp))
  have apOHOM := hid (OM.apart2 OH (by simp))
  have apU0OH := hid (U0.apart OH (by simp))
  have apOHU0 := hid (U0.apart2 OH (by simp))
  have apU1OH := hid (U1.apart OH (by simp))
  have apOHU1 := hid (U1.apart2 OH (by simp))
  have apU2OH := hid (U2.apart OH (by simp))
  have apOHU2 := hid (U2.apart2 OH (by simp))
  have apU3OH := hid (U3.apart OH (by simp))
  have apOHU3 := hid (U3.apart2 OH (by simp))
  have neVWOH := hid (OH.ne (g := w5.heap.size) (by have := var_lt VW; simp; omega))
  have neVGOH := hid (OH.ne (g := w10.heap.size) (by have := var_lt VG; simp; omega))
  have VW := var_below hB VW
  have VG := var_below hB VG
  have OW := OW.below hB
  have OM := OM.below hB
  have U0 := U0.below hB
  have U1 := U1.below hB
  have U2 := U2.below hB
  have U3 := U3.below hB
  have hBel := hBel.trans (hB.mono (by have := hBel.size; omega))
  clear hB
  obtain ⟨fVW1, fVW2, -, -⟩ := var2_facts VW
  have sVW := var_lt VW
  obtain ⟨fVG1, fVG2, -, -⟩ := var2_facts VG
  have sVG := var_lt VG
  clear U0
  clear U1
  clear U2
  clear U3
  go_wp2_with fail
  refine (eqBR c _ _ l _ (OH.below (below_alloc1 w31 _)).rd (OW.below (below_alloc1 w31 _)).rd hl).mono ?_
  rintro e w32 ⟨rfl, hB⟩
  clear fVW1 fVW2 sVW fVG1 fVG2 sVG
  have neVHOW := hid (OW.ne_new (b := w31.heap.size) (Nat.le_refl _))
  have neVHOM := hid (OM.ne_new (b := w31.heap.size) (Nat.le_refl _))
  have neVHOH := hid (OH.ne_new (b := w31.heap.size) (Nat.le_refl _))
  have VH := var_below hB (heap_alloc_new w31 (.cells #[.int .i64 c, .slice qOH l.length cOH] 24))
  have hB := (below_alloc1 w31 _).trans (hB.mono (by simp))
  have VW := var_below hB VW
  have VG := var_below hB VG
  have OW := OW.below hB
  have OM := OM.below hB
  have OH := OH.below hB
  have hBel := hBel.trans (hB.mono (by have := hBel.size; omega))
  clear hB
  obtain ⟨fVW1, fVW2, -, -⟩ := var2_facts VW
  have sVW := var_lt VW
  obtain ⟨fVG1, fVG2, -, -⟩ := var2_facts VG
  have sVG := var_lt VG
  obtain ⟨fVH1, fVH2, -, -⟩ := var2_facts VH
  have sVH := var_lt VH
  go_wp2_with fail
  refine (heldBR1 c _ l.length _ OM.rd hl).mono ?_
  rintro e w33 ⟨rfl, hB⟩
  clear fVW1 fVW2 sVW fVG1 fVG2 sVG fVH1 fVH2 sVH
  have VW := var_below hB VW
  have VG := var_below hB VG
  have VH := var_below hB VH
  have OW := OW.below hB
  have OM := OM.below hB
  have OH := OH.below hB
  have hBel := hBel.trans (hB.mono (by have := hBel.size; omega))
  clear hB
  obtain ⟨fVW1, fVW2, -, -⟩ := var2_facts VW
  have sVW := var_lt VW
  obtain ⟨fVG1, fVG2, -, -⟩ := var2_facts VG
  have sVG := var_lt VG
  obtain ⟨fVH1, fVH2, -, -⟩ := var2_facts VH
  have sVH := var_lt VH
  go_wp2
  go_ret
  exact ⟨rfl, hBel⟩
end Go.Proofs.Ytckgjghpfjinfai.W
