/-
  What is drawn for the law of numbers: numbers, sizes and bytes.
-/
import Derived.Test.YthkicdgkhlkndaaSome
namespace Go.Proofs.Ythkicdgkhlkndaa.W
open Go.ChangeShapes Go.WideShapes Go.ChangeAt Go.RowKit
open Go.Proofs.Ythkicdgkhlkndaa.M

end Go.Proofs.Ythkicdgkhlkndaa.W
namespace Go.Proofs.Ythkicdgkhlkndaa.M
open Go.RowKit
theorem Own.keptG {w w' : World} {base g : Nat} {v : Value} {l : List Nat} (h : Own w base v l) (hG : w.grownBy w' (some g)) (hg : g < base) : Own w' base v l :=
  h.kept hG (.inr (Ne.symm (h.ne hg)))
end Go.Proofs.Ythkicdgkhlkndaa.M
namespace Go.Proofs.Ythkicdgkhlkndaa.W
open Go.ChangeShapes Go.WideShapes Go.ChangeAt Go.RowKit
open Go.Proofs.Ythkicdgkhlkndaa.M

set_option maxRecDepth 100000 in
theorem drawPW (v : Value) (l : List Nat) (w : World) (h : Rd w v l) (y : Byt l) (hl : l.length ≤ 1048576) :
    Calls Try.prog 14 #[v] w fun e w' => ∃ n s : Int, Hid (n < 9223372036854775808 ∧ 0 ≤ s ∧ s ≤ 9) ∧ e = .returned (.tuple #[.int .i64 n, .int .i64 s]) ∧ Below w.heap.size w w' := by
  have H := hid h
  obtain ⟨a, cap, rfl, _, _, _⟩ := h.parts
  clear h
  go_enter Try.func14, Try.ntmps14
  go_wp2_with fail
  refine (source _ l _ H.out y).mono ?_
  rintro e w1 ⟨rfl, hS⟩
  have hlt := var_lt hS.cells
  go_wp2_with fail
  refine (pick' _ _ _ _ 10 _ _ _ [0, 1, 255, 256, 65535, 65536, 4294967295, 4294967296, -1, 9223372036854775807] (hS.later (below_alloc1 w1 _)) (by omega) hl (heap_alloc_new w1 _) (by omega) rfl (by omega) (by omega)).mono ?_
  rintro e w2 ⟨n, hn, rfl, hS2, -⟩
  have HN := hid hn
  have hlt2 := var_lt hS2.cells
  clear hS hn hlt
  go_wp2_with fail
  refine (pick' _ _ _ _ 7 _ _ _ [1, 2, 4, 6, 8, 0, 9] (hS2.later (below_alloc1 w2 _)) (by omega) hl (heap_alloc_new w2 _) (by omega) rfl (by omega) (by omega)).mono ?_
  rintro e w3 ⟨s, hs, rfl, hS3, -⟩
  have HSz := hid hs
  have HB := hid hS3.bel
  clear hS2 hS3 hs hlt2
  go_wp2
  go_ret2
  refine ⟨n, s, ?_, rfl, HB.out⟩
  have h1 := HN.out
  have h2 := HSz.out
  unfold Hid
  simp only [List.mem_cons, List.not_mem_nil, or_false] at h1 h2
  omega

set_option maxRecDepth 100000 in
theorem drawRW (v : Value) (l : List Nat) (w : World) (h : Rd w v l) (y : Byt l) (hl : l.length ≤ 1048576) :
    Calls Try.prog 16 #[v] w fun e w' => ∃ (gg n cap : Nat) (d : List Nat) (a s : Int), Hid (-9223372036854775808 ≤ a ∧ a ≤ 9223372036854775807 ∧ 0 ≤ s ∧ s ≤ 9 ∧ n ≤ 12) ∧ d.length = n ∧ Byt d ∧ e = .returned (.tuple #[.slice (some ⟨gg, 0, none⟩) n cap, .int .i64 a, .int .i64 s]) ∧ Own w' w.heap.size (.slice (some ⟨gg, 0, none⟩) n cap) d ∧ Below w.heap.size w w' := by
  have H := hid h
  obtain ⟨a, cap, rfl, _, _, _⟩ := h.parts
  clear h
  go_enter Try.func16, Try.ntmps16
  go_wp2_with fail
  refine (source _ l _ H.out y).mono ?_
  rintro e w1 ⟨rfl, hS⟩
  have hlt := var_lt hS.cells
  go_wp2_with fail
  refine (pick' _ _ _ _ 5 _ _ _ [0, 1, 4, 8, 12] (hS.later (below_alloc1 w1 _)) (by omega) hl (heap_alloc_new w1 _) (by omega) rfl (by omega) (by omega)).mono ?_
  rintro e w2 ⟨n, hn, rfl, hS2, -⟩
  have hlt2 := var_lt hS2.cells
  obtain ⟨n0, n1⟩ : 0 ≤ n ∧ n ≤ 12 := by simp only [List.mem_cons, List.not_mem_nil, or_false] at hn; omega
  obtain ⟨n, rfl⟩ : ∃ j : Nat, n = j := ⟨n.toNat, by omega⟩
  clear hS hn hlt n0
  go_wp2_with fail
  refine (some' _ _ _ _ _ _ n hS2 (by omega) hl).mono ?_
  rintro e w3 ⟨gg, cp, d, rfl, hd, yd, hO, hS3, hG3⟩
  have hlt3 := var_lt hS3.cells
  have HD := hid hd
  clear hd
  go_wp2_with fail
  refine (pick' _ _ _ _ 6 _ _ _ [0, 0, 1, 4, -1, 9223372036854775807] (hS3.later (below_alloc1 w3 _)) (by omega) hl (heap_alloc_new w3 _) (by omega) rfl (by omega) (by omega)).mono ?_
  rintro e w4 ⟨at', ha, rfl, hS4, hG4⟩
  have HA := hid ha
  have hO := (hO.below (below_alloc1 w3 _)).keptG hG4 hlt2
  have hlt4 := var_lt hS4.cells
  clear hS3 ha hlt3 hG3 hG4
  go_wp2_with fail
  refine (pick' _ _ _ _ 7 _ _ _ [1, 2, 4, 8, 0, 9, 6] (hS4.later (below_alloc1 w4 _)) (by omega) hl (heap_alloc_new w4 _) (by omega) rfl (by omega) (by omega)).mono ?_
  rintro e w5 ⟨s, hs, rfl, hS5, hG5⟩
  have HSz := hid hs
  have hO := ((hO.below (below_alloc1 w4 _)).keptG hG5 hlt2).mono hS2.bel.size
  have HO := hid hO
  have HB := hid hS5.bel
  clear hS2 hS4 hS5 hs hG5 hO
  go_wp2
  go_ret3
  refine ⟨gg, n, cp, d, at', s, ?_, HD.out, yd, rfl, HO.out, HB.out⟩
  have h1 := HA.out
  have h2 := HSz.out
  unfold Hid
  simp only [List.mem_cons, List.not_mem_nil, or_false] at h1 h2
  omega

set_option maxHeartbeats 1000000 in
set_option maxRecDepth 100000 in
theorem drawXB (v : Value) (l : List Nat) (w : World) (h : Rd w v l) (y : Byt l) (hl : l.length ≤ 1048576) :
    Calls Try.prog 18 #[v] w fun e w' => ∃ (g1 n1 c1 g2 n2 c2 : Nat) (d1 d2 : List Nat), n1 ≤ 802 ∧ n2 ≤ 802 ∧ d1.length = n1 ∧ d2.length = n2 ∧ Byt d1 ∧ Byt d2 ∧ e = .returned (.tuple #[.slice (some ⟨g1, 0, none⟩) n1 c1, .slice (some ⟨g2, 0, none⟩) n2 c2]) ∧ Own w' w.heap.size (.slice (some ⟨g1, 0, none⟩) n1 c1) d1 ∧ Own w' w.heap.size (.slice (some ⟨g2, 0, none⟩) n2 c2) d2 ∧ Below w.heap.size w w' := by
  have H := hid h
  obtain ⟨a, cap, rfl, _, _, _⟩ := h.parts
  clear h
  go_enter Try.func18, Try.ntmps18
  go_wp2_with fail
  refine (source _ l _ H.out y).mono ?_
  rintro e w1 ⟨rfl, hS⟩
  have hlt := var_lt hS.cells
  go_wp2_with fail
  refine (pick' _ _ _ _ 4 _ _ _ [0, 1, 16, 33] (hS.later (below_alloc1 w1 _)) (by omega) hl (heap_alloc_new w1 _) (by omega) rfl (by omega) (by omega)).mono ?_
  rintro e w2 ⟨n, hn, rfl, hS2, -⟩
  have hlt2 := var_lt hS2.cells
  obtain ⟨n0, n1⟩ : 0 ≤ n ∧ n ≤ 33 := by simp only [List.mem_cons, List.not_mem_nil, or_false] at hn; omega
  obtain ⟨n, rfl⟩ : ∃ j : Nat, n = j := ⟨n.toNat, by omega⟩
  clear hS hn hlt n0
  go_wp2_with fail
  refine (chance _ _ _ _ _ _ _ hS2 (by omega) (by omega) hl).mono ?_
  rintro e w3 ⟨r, rfl, hS3, -⟩
  have hlt3 := var_lt hS3.cells
  clear hS2 hlt2
  cases r
  case false =>
    go_wp2_with fail
    refine (some' _ _ _ _ _ _ n hS3 (by omega) hl).mono ?_
    rintro e w5 ⟨g1, c1, d1, rfl, hd1, yd1, hO1, hS5, hG5⟩
    have z5 := hS3.bel.size
    have hlt5 := var_lt hS5.cells
    have HD1 := hid hd1
    clear hd1 hG5
    go_wp2_with fail
    refine (pick' _ _ _ _ 4 _ _ _ [(n : Int), n, n, n + 1] (hS5.later (below_alloc1 w5 _)) (by omega) hl (heap_alloc_new w5 _) (by omega) rfl (by omega) (by omega)).mono ?_
    rintro e w6 ⟨k, hk, rfl, hS6, hG6⟩
    have hO1 := (hO1.below (below_alloc1 w5 _)).keptG hG6 hlt3
    have hlt6 := var_lt hS6.cells
    have z6 := hS6.bel.size
    obtain ⟨k0, k1⟩ : 0 ≤ k ∧ k ≤ 802 := by simp only [List.mem_cons, List.not_mem_nil, or_false] at hk; omega
    obtain ⟨k, rfl⟩ : ∃ j : Nat, k = j := ⟨k.toNat, by omega⟩
    clear hS5 hk hlt5 k0 hG6
    go_wp2_with fail
    refine (some' _ _ _ _ _ _ k hS6 (by omega) hl).mono ?_
    rintro e w7 ⟨g2, c2, d2, rfl, hd2, yd2, hO2, hS7, hG7⟩
    have hO1 := (hO1.keptG hG7 hlt3).mono z5
    have hO2 := hO2.mono z6
    have HB := hid hS7.bel
    have HD2 := hid hd2
    have HO1 := hid hO1
    have HO2 := hid hO2
    clear hO1 hO2 hS6 hS7 hG7 hd2
    go_wp2
    go_ret2
    exact ⟨g1, n, c1, g2, k, c2, d1, d2, by omega, by omega, HD1.out, HD2.out, yd1, yd2, rfl, HO1.out, HO2.out, HB.out⟩
  case true =>
    go_wp2_with fail
    refine (pick' _ _ _ _ 2 _ _ _ [800, 801] (hS3.later (below_alloc1 w3 _)) (by omega) hl (heap_alloc_new w3 _) (by omega) rfl (by omega) (by omega)).mono ?_
    rintro e w4 ⟨m, hm, rfl, hS4, -⟩
    have hlt4 := var_lt hS4.cells
    obtain ⟨m0, m1⟩ : 0 ≤ m ∧ m ≤ 801 := by simp only [List.mem_cons, List.not_mem_nil, or_false] at hm; omega
    obtain ⟨m, rfl⟩ : ∃ j : Nat, m = j := ⟨m.toNat, by omega⟩
    clear hS3 hm hlt3 m0
    go_wp2_with fail
    refine (some' _ _ _ _ _ _ m hS4 (by omega) hl).mono ?_
    rintro e w5 ⟨g1, c1, d1, rfl, hd1, yd1, hO1, hS5, hG5⟩
    have z5 := hS4.bel.size
    have hlt5 := var_lt hS5.cells
    have HD1 := hid hd1
    clear hd1 hG5
    go_wp2_with fail
    refine (pick' _ _ _ _ 4 _ _ _ [(m : Int), m, m, m + 1] (hS5.later (below_alloc1 w5 _)) (by omega) hl (heap_alloc_new w5 _) (by omega) rfl (by omega) (by omega)).mono ?_
    rintro e w6 ⟨k, hk, rfl, hS6, hG6⟩
    have hO1 := (hO1.below (below_alloc1 w5 _)).keptG hG6 hlt4
    have hlt6 := var_lt hS6.cells
    have z6 := hS6.bel.size
    obtain ⟨k0, k1⟩ : 0 ≤ k ∧ k ≤ 802 := by simp only [List.mem_cons, List.not_mem_nil, or_false] at hk; omega
    obtain ⟨k, rfl⟩ : ∃ j : Nat, k = j := ⟨k.toNat, by omega⟩
    clear hS5 hk hlt5 k0 hG6
    go_wp2_with fail
    refine (some' _ _ _ _ _ _ k hS6 (by omega) hl).mono ?_
    rintro e w7 ⟨g2, c2, d2, rfl, hd2, yd2, hO2, hS7, hG7⟩
    have hO1 := (hO1.keptG hG7 hlt4).mono z5
    have hO2 := hO2.mono z6
    have HB := hid hS7.bel
    have HD2 := hid hd2
    have HO1 := hid hO1
    have HO2 := hid hO2
    clear hO1 hO2 hS6 hS7 hG7 hd2
    go_wp2
    go_ret2
    exact ⟨g1, m, c1, g2, k, c2, d1, d2, by omega, by omega, HD1.out, HD2.out, yd1, yd2, rfl, HO1.out, HO2.out, HB.out⟩
end Go.Proofs.Ythkicdgkhlkndaa.W
