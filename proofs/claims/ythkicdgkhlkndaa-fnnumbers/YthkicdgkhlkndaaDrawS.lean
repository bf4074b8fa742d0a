/-
  What is drawn for the law of numbers: two slices of bytes that are nearly the same.
-/
import Derived.Test.YthkicdgkhlkndaaDrawN
import Derived.Test.YthkicdgkhlkndaaXor
namespace Go.Proofs.Ythkicdgkhlkndaa.W
open Go.ChangeShapes Go.WideShapes Go.ChangeAt Go.RowKit
open Go.Proofs.Ythkicdgkhlkndaa.M

set_option maxHeartbeats 1000000 in
set_option maxRecDepth 100000 in
theorem drawSB (v : Value) (l : List Nat) (w : World) (h : Rd w v l) (y : Byt l) (hl : l.length ≤ 1048576) :
    Calls Try.prog 20 #[v] w fun e w' => ∃ (va vb : Value) (la lb : List Nat), e = .returned (.tuple #[va, vb]) ∧ Own w' w.heap.size va la ∧ Own w' w.heap.size vb lb ∧ Below w.heap.size w w' := by
  have H := hid h
  obtain ⟨a, cap, rfl, _, _, _⟩ := h.parts
  clear h
  go_enter Try.func20, Try.ntmps20
  go_wp2_with fail
  refine (source _ l _ H.out y).mono ?_
  rintro e w1 ⟨rfl, hS⟩
  have hlt := var_lt hS.cells
  go_wp2_with fail
  refine (next _ _ _ _ _ _ _ hS (by omega) (by omega) hl).mono ?_
  rintro e w2 ⟨n, rfl, hn, hS2, -⟩
  obtain ⟨n0, n1⟩ := hn (by omega)
  obtain ⟨n, rfl⟩ : ∃ j : Nat, n = j := ⟨n.toNat, by omega⟩
  have hlt2 := var_lt hS2.cells
  clear hS hn hlt n0
  go_wp2_with fail
  refine (some' _ _ _ _ _ _ n hS2 (by omega) hl).mono ?_
  rintro e w3 ⟨g1, c1, d1, rfl, hd1, yd1, hO1, hS3, -⟩
  have z2 := hS2.bel.size
  have z3 := hS3.bel.size
  have hlt3 := var_lt hS3.cells
  have HD1 := hid hd1
  clear hd1 hS2
  go_wp2_with fail
  refine (copy' _ _ _ n d1 _ hO1 HD1.out (by omega)).mono ?_
  rintro e w4 ⟨vb, rfl, hO4, hB4⟩
  have hap := hid (hO1.apart hO4 (Nat.le_refl _))
  have hO1 := hO1.below hB4
  have hS4 := hS3.later hB4
  have hlt4 := var_lt hS4.cells
  clear hS3 hB4
  by_cases hz : n = 0
  · subst hz
    obtain rfl := List.eq_nil_of_length_eq_zero HD1.out
    obtain ⟨pb, cb, rfl, -, -, -⟩ := hO4.rd.parts
    simp only [List.length_nil] at *
    have HB := hid hS4.bel
    have HO1 := hid (hO1.mono z2)
    have HO4 := hid (hO4.mono z3)
    clear hS4 hO1 hO4
    go_wp2_with fail
    go_ret2
    exact ⟨_, _, [], [], rfl, HO1.out, HO4.out, HB.out⟩
  · obtain ⟨gb, cb, rfl, hgb, -⟩ : ∃ gb cb, vb = .slice (some ⟨gb, 0, none⟩) n cb ∧ w3.heap.size ≤ gb ∧ gb < w4.heap.size := by
      have q := hO4
      unfold Own at q
      rw [HD1.out] at q
      exact World.ownsRow.form q (by omega)
    have hz' : (0 : Int) < (n : Int) := by omega
    go_wp2_with fail
    refine (chance _ _ _ _ _ _ _ hS4 (by omega) (by omega) hl).mono ?_
    rintro e w5 ⟨r, rfl, hS5, hG5⟩
    have hO1 := hO1.keptG hG5 hlt2
    have hO4 := hO4.keptG hG5 hlt3
    have hlt5 := var_lt hS5.cells
    clear hS4 hG5
    cases r
    case false =>
      have HB := hid hS5.bel
      have HO1 := hid (hO1.mono z2)
      have HO4 := hid (hO4.mono z3)
      clear hS5 hO1 hO4
      go_wp2_with fail
      go_ret2
      exact ⟨_, _, d1, d1, rfl, HO1.out, HO4.out, HB.out⟩
    case true =>
      go_wp2_with fail
      refine (next _ _ _ _ _ _ _ hS5 (by omega) (by omega) hl).mono ?_
      rintro e w6 ⟨i, rfl, hi, hS6, hG6⟩
      obtain ⟨i0, i1⟩ := hi (by omega)
      obtain ⟨i, rfl⟩ : ∃ j : Nat, i = j := ⟨i.toNat, by omega⟩
      have hO1 := hO1.keptG hG6 hlt2
      have hO4 := hO4.keptG hG6 hlt3
      have e1 := HD1.out
      have hc := hO4.cell e1 i (by omega)
      have hf := hO4.open e1 i
      have hx := yd1.at i (by omega)
      have hs := hO4.stored e1 i (d1[i]'(by omega) ^^^ 1)
      have hb2 := hS6.bel.setCell (p := ⟨gb, i, none⟩) (show w.heap.size ≤ gb by omega) (bv (d1[i]'(by omega) ^^^ 1))
      have hO1 := (hO1.kept hs.2 hap.out).mono z2
      have hO4 := hs.1.mono z3
      have X := xor8' (d1[i]'(by omega)) 1 hx (by omega)
      rw [show ((1 : Nat) : Int) = 1 from rfl] at X
      unfold bv at hc hb2
      rw [← X] at hb2
      unfold bv at hO1 hO4
      rw [← X] at hO1 hO4
      have HB := hid hb2
      have HO1 := hid hO1
      have HO4 := hid hO4
      generalize d1[i]'(by omega) = x at *
      have i0' : (0 : Int) ≤ (i : Int) := by omega
      clear hb2 hO1 hO4 hs hS5 hS6 hG6 hi X e1
      go_wp2
      go_ret2
      exact ⟨_, _, d1, _, rfl, HO1.out, HO4.out, HB.out⟩
end Go.Proofs.Ythkicdgkhlkndaa.W
