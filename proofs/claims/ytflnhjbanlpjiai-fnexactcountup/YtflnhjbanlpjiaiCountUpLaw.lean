/-
  The exact law of CountUp, out of the contracts of its callees.
-/
import Derived.Test.YtflnhjbanlpjiaiSlxWalks
namespace Go.Proofs.Ytflnhjbanlpjiai.W
open Go.ChangeShapes Go.WideShapes Go.ChangeAt Go.RowKit
open Go.Proofs.Ytflnhjbanlpjiai.M

set_option maxHeartbeats 4000000 in
set_option maxRecDepth 100000 in
theorem law_CountUp (l0 : List Nat) (c : Int) (l : List Nat) (a0 : Value) (w : World) (hl : l.length ≤ 1048576)
    (h0 : Rd w a0 l0)
    (SP : Hid (∀ (w : World) (v0 : Value), Rd w v0 l0 → Calls Try.prog 7 #[v0] w fun e w' => ∃ v, e = .returned (.agg #[.int .i64 c, v]) ∧ Owx w' w.heap.size v l ∧ Below w.heap.size w w'))
    (IP : Hid (∀ (w : World) (v0 : Value), Rd w v0 l0 → Calls Try.prog 9 #[v0] w fun e w' => ∃ v, e = .returned (.agg #[.int .i64 c, v]) ∧ Owx w' w.heap.size v l ∧ Below w.heap.size w w')) :
    Calls Try.prog 3 #[a0] w fun e w' => e = .returned (.bool true) ∧ Below w.heap.size w w' := by
  obtain ⟨p0, cap0, rfl, _, _, _⟩ := h0.parts
  by_cases z0 : l0.length ≤ 1048576
  case neg =>
    go_enter Try.func3, Try.ntmps3
    go_wp2
    go_ret
    exact ⟨rfl, Below.refl _ _⟩
  have hBel := Below.refl w.heap.size w
  have Z0 := hid h0
  clear h0
  go_enter Try.func3, Try.ntmps3
  go_wp2_with fail
  refine (toB _ l0 _ (Z0.out.below hBel) z0).mono ?_
  rintro e w1 ⟨rfl, T0, hB⟩
  replace T0 := T0.x
  have hBel0T0 := hBel
  have hBel := hBel.trans (hB.mono (by have := hBel.size; omega))
  clear hB
  go_wp2_with fail
  refine (SP.out _ _ T0.rd).mono ?_
  rintro e w2 ⟨v, rfl, OW, hB⟩
  obtain ⟨qOW, cOW, rfl, -, -, -⟩ := OW.rd.parts
  have hBel0OW := hBel
  have apT0OW := hid (T0.apart OW (by simp))
  have apOWT0 := hid (T0.apart2 OW (by simp))
  have T0 := T0.below hB
  have hBel := hBel.trans (hB.mono (by have := hBel.size; omega))
  clear hB
  clear T0
  go_wp2_with fail
  refine (toB _ l0 _ ((Z0.out.below hBel).below (below_alloc1 w2 _)) z0).mono ?_
  rintro e w3 ⟨rfl, X0, hB⟩
  simp only [World.size_alloc] at X0
  replace X0 := X0.x
  have hBel0X0 := hBel
  have apOWX0 := hid (OW.apart X0 (by simp))
  have apX0OW := hid (OW.apart2 X0 (by simp))
  have neVWX0 := hid (X0.ne (g := w2.heap.size) (by simp))
  have neVWOW := hid (OW.ne_new (b := w2.heap.size) (Nat.le_refl _))
  have VW := var_below hB (heap_alloc_new w2 (.cells #[.int .i64 c, .slice qOW l.length cOW] 24))
  have hB := (below_alloc1 w2 _).trans (hB.mono (by simp))
  have OW := OW.below hB
  have hBel := hBel.trans (hB.mono (by have := hBel.size; omega))
  clear hB
  obtain ⟨fVW1, fVW2, -, -⟩ := var2_facts VW
  have sVW := var_lt VW
  go_wp2_with fail
  refine (IP.out _ _ X0.rd).mono ?_
  rintro e w4 ⟨v, rfl, OG, hB⟩
  obtain ⟨qOG, cOG, rfl, -, -, -⟩ := OG.rd.parts
  have hBel0OG := hBel
  clear fVW1 fVW2 sVW
  have apOWOG := hid (OW.apart OG (by simp))
  have apOGOW := hid (OW.apart2 OG (by simp))
  have apX0OG := hid (X0.apart OG (by simp))
  have apOGX0 := hid (X0.apart2 OG (by simp))
  have neVWOG := hid (OG.ne (g := w2.heap.size) (by have := var_lt VW; simp; omega))
  have VW := var_below hB VW
  have OW := OW.below hB
  have X0 := X0.below hB
  have hBel := hBel.trans (hB.mono (by have := hBel.size; omega))
  clear hB
  obtain ⟨fVW1, fVW2, -, -⟩ := var2_facts VW
  have sVW := var_lt VW
  go_wp2_with fail
  refine (eqBR c _ _ l _ (OG.below (below_alloc1 w4 _)).rd (OW.below (below_alloc1 w4 _)).rd hl).mono ?_
  rintro e w5 ⟨rfl, hB⟩
  clear fVW1 fVW2 sVW
  have neVGOW := hid (OW.ne_new (b := w4.heap.size) (Nat.le_refl _))
  have neVGX0 := hid (X0.ne_new (b := w4.heap.size) (Nat.le_refl _))
  have neVGOG := hid (OG.ne_new (b := w4.heap.size) (Nat.le_refl _))
  have VG := var_below hB (heap_alloc_new w4 (.cells #[.int .i64 c, .slice qOG l.length cOG] 24))
  have hB := (below_alloc1 w4 _).trans (hB.mono (by simp))
  have VW := var_below hB VW
  have OW := OW.below hB
  have X0 := X0.below hB
  have OG := OG.below hB
  have hBel := hBel.trans (hB.mono (by have := hBel.size; omega))
  clear hB
  obtain ⟨fVW1, fVW2, -, -⟩ := var2_facts VW
  have sVW := var_lt VW
  obtain ⟨fVG1, fVG2, -, -⟩ := var2_facts VG
  have sVG := var_lt VG
  go_wp2_with fail
  refine (toB _ l0 _ (Z0.out.below hBel) z0).mono ?_
  rintro e w6 ⟨rfl, Y0, hB⟩
  replace Y0 := Y0.x
  have hBel0Y0 := hBel
  clear fVW1 fVW2 sVW fVG1 fVG2 sVG
  have apOWY0 := hid (OW.apart Y0 (by simp))
  have apY0OW := hid (OW.apart2 Y0 (by simp))
  have apX0Y0 := hid (X0.apart Y0 (by simp))
  have apY0X0 := hid (X0.apart2 Y0 (by simp))
  have apOGY0 := hid (OG.apart Y0 (by simp))
  have apY0OG := hid (OG.apart2 Y0 (by simp))
  have neVWY0 := hid (Y0.ne (g := w2.heap.size) (by have := var_lt VW; simp; omega))
  have neVGY0 := hid (Y0.ne (g := w4.heap.size) (by have := var_lt VG; simp; omega))
  have VW := var_below hB VW
  have VG := var_below hB VG
  have OW := OW.below hB
  have X0 := X0.below hB
  have OG := OG.below hB
  have hBel := hBel.trans (hB.mono (by have := hBel.size; omega))
  clear hB
  obtain ⟨fVW1, fVW2, -, -⟩ := var2_facts VW
  have sVW := var_lt VW
  obtain ⟨fVG1, fVG2, -, -⟩ := var2_facts VG
  have sVG := var_lt VG
  go_wp2_with fail
  refine (eqB _ _ l0 _ X0.rd Y0.rd z0).mono ?_
  rintro e w7 ⟨rfl, hB⟩
  clear fVW1 fVW2 sVW fVG1 fVG2 sVG
  have VW := var_below hB VW
  have VG := var_below hB VG
  have OW := OW.below hB
  have X0 := X0.below hB
  have OG := OG.below hB
  have Y0 := Y0.below hB
  have hBel := hBel.trans (hB.mono (by have := hBel.size; omega))
  clear hB
  obtain ⟨fVW1, fVW2, -, -⟩ := var2_facts VW
  have sVW := var_lt VW
  obtain ⟨fVG1, fVG2, -, -⟩ := var2_facts VG
  have sVG := var_lt VG
  clear Y0
  go_wp2_with fail
  refine (markB1x _ l0 _ _ X0 z0).mono ?_
  rintro e w8 ⟨rfl, M0, hG⟩
  clear fVW1 fVW2 sVW fVG1 fVG2 sVG
  have hBg := below_of_grown (B := w.heap.size) hG (by have := hBel.size; omega) (X0.row (by have := hBel0X0.size; first | omega | (simp; omega)))
  have VW := var_grown hG VW neVWX0.out
  have VG := var_grown hG VG neVGX0.out
  have OW := OW.kept hG apOWX0.out
  have OG := OG.kept hG apOGX0.out
  have hBel := hBel.trans hBg
  clear hBg hG
  clear X0
  clear M0
  obtain ⟨fVW1, fVW2, -, -⟩ := var2_facts VW
  have sVW := var_lt VW
  obtain ⟨fVG1, fVG2, -, -⟩ := var2_facts VG
  have sVG := var_lt VG
  have hk0 : decide ((1 : Int) + (l0.length : Int) < 0) = false := decide_eq_false (by omega)
  go_wp2_with fail
  refine (eqBR c _ _ l _ OG.rd OW.rd hl).mono ?_
  rintro e w9 ⟨rfl, hB⟩
  clear fVW1 fVW2 sVW fVG1 fVG2 sVG
  have VW := var_below hB VW
  have VG := var_below hB VG
  have OW := OW.below hB
  have OG := OG.below hB
  have hBel := hBel.trans (hB.mono (by have := hBel.size; omega))
  clear hB
  obtain ⟨fVW1, fVW2, -, -⟩ := var2_facts VW
  have sVW := var_lt VW
  obtain ⟨fVG1, fVG2, -, -⟩ := var2_facts VG
  have sVG := var_lt VG
  clear hk0
  go_wp2_with fail
  refine (markBR1x c _ l _ _ OG hl).mono ?_
  rintro e w10 ⟨rfl, OM, hG⟩
  clear fVW1 fVW2 sVW fVG1 fVG2 sVG
  have hBg := below_of_grown (B := w.heap.size) hG (by have := hBel.size; omega) (OG.row (by have := hBel0OG.size; first | omega | (simp; omega)))
  have VW := var_grown hG VW neVWOG.out
  have VG := var_grown hG VG neVGOG.out
  have OW := OW.kept hG apOWOG.out
  have hBel := hBel.trans hBg
  clear hBg hG
  clear OG
  have apOWOM := apOWOG
  have apOMOW := apOGOW
  obtain ⟨fVW1, fVW2, -, -⟩ := var2_facts VW
  have sVW := var_lt VW
  obtain ⟨fVG1, fVG2, -, -⟩ := var2_facts VG
  have sVG := var_lt VG
  go_wp2_with fail
  refine (heldBR1 c _ l.length _ OM.rd hl).mono ?_
  rintro e w11 ⟨rfl, hB⟩
  clear fVW1 fVW2 sVW fVG1 fVG2 sVG
  have VW := var_below hB VW
  have VG := var_below hB VG
  have OW := OW.below hB
  have OM := OM.below hB
  have hBel := hBel.trans (hB.mono (by have := hBel.size; omega))
  clear hB
  obtain ⟨fVW1, fVW2, -, -⟩ := var2_facts VW
  have sVW := var_lt VW
  obtain ⟨fVG1, fVG2, -, -⟩ := var2_facts VG
  have sVG := var_lt VG
  go_wp2_with fail
  refine (toB _ l0 _ (Z0.out.below hBel) z0).mono ?_
  rintro e w12 ⟨rfl, U0, hB⟩
  replace U0 := U0.x
  have hBel0U0 := hBel
  clear fVW1 fVW2 sVW fVG1 fVG2 sVG
  have apOWU0 := hid (OW.apart U0 (by simp))
  have apU0OW := hid (OW.apart2 U0 (by simp))
  have apOMU0 := hid (OM.apart U0 (by simp))
  have apU0OM := hid (OM.apart2 U0 (by simp))
  have neVWU0 := hid (U0.ne (g := w2.heap.size) (by have := var_lt VW; simp; omega))
  have neVGU0 := hid (U0.ne (g := w4.heap.size) (by have := var_lt VG; simp; omega))
  have VW := var_below hB VW
  have VG := var_below hB VG
  have OW := OW.below hB
  have OM := OM.below hB
  have hBel := hBel.trans (hB.mono (by have := hBel.size; omega))
  clear hB
  obtain ⟨fVW1, fVW2, -, -⟩ := var2_facts VW
  have sVW := var_lt VW
  obtain ⟨fVG1, fVG2, -, -⟩ := var2_facts VG
  have sVG := var_lt VG
  go_wp2_with fail
  refine (IP.out _ _ U0.rd).mono ?_
  rintro e w13 ⟨v, rfl, OH, hB⟩
  obtain ⟨qOH, cOH, rfl, -, -, -⟩ := OH.rd.parts
  have hBel0OH := hBel
  clear fVW1 fVW2 sVW fVG1 fVG2 sVG
  have apOWOH := hid (OW.apart OH (by simp))
  have apOHOW := hid (OW.apart2 OH (by simp))
  have apOMOH := hid (OM.apart OH (by simp))
  have apOHOM := hid (OM.apart2 OH (by simp))
  have apU0OH := hid (U0.apart OH (by simp))
  have apOHU0 := hid (U0.apart2 OH (by simp))
  have neVWOH := hid (OH.ne (g := w2.heap.size) (by have := var_lt VW; simp; omega))
  have neVGOH := hid (OH.ne (g := w4.heap.size) (by have := var_lt VG; simp; omega))
  have VW := var_below hB VW
  have VG := var_below hB VG
  have OW := OW.below hB
  have OM := OM.below hB
  have U0 := U0.below hB
  have hBel := hBel.trans (hB.mono (by have := hBel.size; omega))
  clear hB
  obtain ⟨fVW1, fVW2, -, -⟩ := var2_facts VW
  have sVW := var_lt VW
  obtain ⟨fVG1, fVG2, -, -⟩ := var2_facts VG
  have sVG := var_lt VG
  clear U0
  go_wp2_with fail
  refine (eqBR c _ _ l _ (OH.below (below_alloc1 w13 _)).rd (OW.below (below_alloc1 w13 _)).rd hl).mono ?_
  rintro e w14 ⟨rfl, hB⟩
  clear fVW1 fVW2 sVW fVG1 fVG2 sVG
  have neVHOW := hid (OW.ne_new (b := w13.heap.size) (Nat.le_refl _))
  have neVHOM := hid (OM.ne_new (b := w13.heap.size) (Nat.le_refl _))
  have neVHOH := hid (OH.ne_new (b := w13.heap.size) (Nat.le_refl _))
  have VH := var_below hB (heap_alloc_new w13 (.cells #[.int .i64 c, .slice qOH l.length cOH] 24))
  have hB := (below_alloc1 w13 _).trans (hB.mono (by simp))
  have VW := var_below hB VW
  have VG := var_below hB VG
  have OW := OW.below hB
  have OM := OM.below hB
  have OH := OH.below hB
  have hBel := hBel.trans (hB.mono (by have := hBel.size; omega))
  clear hB
  obtain ⟨fVW1, fVW2, -, -⟩ := var2_facts VW
  have sVW := var_lt VW
  obtain ⟨fVG1, fVG2, -, -⟩ := var2_facts VG
  have sVG := var_lt VG
  obtain ⟨fVH1, fVH2, -, -⟩ := var2_facts VH
  have sVH := var_lt VH
  go_wp2_with fail
  refine (heldBR1 c _ l.length _ OM.rd hl).mono ?_
  rintro e w15 ⟨rfl, hB⟩
  clear fVW1 fVW2 sVW fVG1 fVG2 sVG fVH1 fVH2 sVH
  have VW := var_below hB VW
  have VG := var_below hB VG
  have VH := var_below hB VH
  have OW := OW.below hB
  have OM := OM.below hB
  have OH := OH.below hB
  have hBel := hBel.trans (hB.mono (by have := hBel.size; omega))
  clear hB
  obtain ⟨fVW1, fVW2, -, -⟩ := var2_facts VW
  have sVW := var_lt VW
  obtain ⟨fVG1, fVG2, -, -⟩ := var2_facts VG
  have sVG := var_lt VG
  obtain ⟨fVH1, fVH2, -, -⟩ := var2_facts VH
  have sVH := var_lt VH
  go_wp2
  go_ret
  exact ⟨rfl, hBel⟩
end Go.Proofs.Ytflnhjbanlpjiai.W
