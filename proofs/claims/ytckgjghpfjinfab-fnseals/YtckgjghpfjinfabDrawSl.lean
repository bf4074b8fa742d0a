/-
  What is drawn for the law of seals: a key, a nonce, what is beside, a plain.
-/
import Derived.Test.YtckgjghpfjinfabSome
import Derived.Test.YtckgjghpfjinfabSlX
namespace Go.Proofs.Ytckgjghpfjinfab.W
open Go.ChangeShapes Go.WideShapes Go.ChangeAt Go.RowKit
open Go.Proofs.Ytckgjghpfjinfab.M

theorem four_results {fn : Func} {a b c d : Tmp} (h : fn.results = #[.tmp a, .tmp b, .tmp c, .tmp d]) (ts : Array Value) (P : Program) (w : World) :
    (results fn ts).run P w = .ok (.tuple #[ts.getD a undef, ts.getD b undef, ts.getD c undef, ts.getD d undef]) w := by simp [results, h]

set_option maxHeartbeats 4000000 in
set_option maxRecDepth 100000 in
theorem drawSl (v : Value) (l : List Nat) (w : World) (h : Rd w v l) (y : Byt l) (hl : l.length ≤ 1048576) :
    Calls Try.prog 17 #[v] w fun e w' => ∃ (g1 c1 g2 c2 g3 c3 g4 c4 : Nat) (k n x p : List Nat), e = .returned (.tuple #[.slice (some ⟨g1, 0, none⟩) k.length c1, .slice (some ⟨g2, 0, none⟩) n.length c2, .slice (some ⟨g3, 0, none⟩) x.length c3, .slice (some ⟨g4, 0, none⟩) p.length c4]) ∧ k.length ≤ 17 ∧ n.length ≤ 12 ∧ x.length ≤ 101 ∧ p.length ≤ 601 ∧ Byt k ∧ Byt n ∧ Byt x ∧ Byt p ∧ Own w' w.heap.size (.slice (some ⟨g1, 0, none⟩) k.length c1) k ∧ Own w' w.heap.size (.slice (some ⟨g2, 0, none⟩) n.length c2) n ∧ Own w' w.heap.size (.slice (some ⟨g3, 0, none⟩) x.length c3) x ∧ Own w' w.heap.size (.slice (some ⟨g4, 0, none⟩) p.length c4) p ∧ Below w.heap.size w w' ∧ g1 ≠ g2 ∧ g1 ≠ g3 ∧ g2 ≠ g3 := by
  have H := hid h
  obtain ⟨a, cap, rfl, _, _, _⟩ := h.parts
  clear h
  go_enter Try.func17, Try.ntmps17
  go_wp2_with fail
  refine (source _ l _ H.out y).mono ?_
  rintro e w1 ⟨rfl, hS1⟩
  go_wp2_with fail
  have hlt := var_lt hS1.cells
  refine (pick' _ _ _ _ 6 _ _ _ [0, 1, 15, 16, 33, 60] (hS1.later (below_alloc1 w1 _)) (by omega) hl (heap_alloc_new w1 _) (by omega) rfl (by omega) (by omega)).mono ?_
  rintro e w2 ⟨np, hq, rfl, hS2, hG⟩
  obtain ⟨np0, np1⟩ : 0 ≤ np ∧ np ≤ 601 := by simp only [List.mem_cons, List.not_mem_nil, or_false] at hq; omega
  obtain ⟨np, rfl⟩ : ∃ j : Nat, np = j := ⟨np.toNat, by omega⟩
  clear hS1 hq hlt hG np0
  go_wp2_with fail
  have hlt := var_lt hS2.cells
  refine (pick' _ _ _ _ 4 _ _ _ [0, 1, 16, 20] (hS2.later (below_alloc1 w2 _)) (by omega) hl (heap_alloc_new w2 _) (by omega) rfl (by omega) (by omega)).mono ?_
  rintro e w3 ⟨ne, hq, rfl, hS3, hG⟩
  obtain ⟨ne0, ne1⟩ : 0 ≤ ne ∧ ne ≤ 101 := by simp only [List.mem_cons, List.not_mem_nil, or_false] at hq; omega
  obtain ⟨ne, rfl⟩ : ∃ j : Nat, ne = j := ⟨ne.toNat, by omega⟩
  clear hS2 hq hlt hG ne0
  go_wp2_with fail
  refine (chance _ _ _ _ _ _ 30 hS3 (by omega) (by omega) hl).mono ?_
  rintro e wc ⟨r, rfl, hSc, -⟩
  clear hS3
  cases r
  · go_wp2_with fail
    have hlt := var_lt hSc.cells
    refine (pick' _ _ _ _ 8 _ _ _ [16, 16, 16, 16, 16, 16, 16, 17] (hSc.later (below_alloc1 wc _)) (by omega) hl (heap_alloc_new wc _) (by omega) rfl (by omega) (by omega)).mono ?_
    rintro e w4 ⟨qk, hq, rfl, hS4, hG⟩
    obtain ⟨qk0, qk1⟩ : 0 ≤ qk ∧ qk ≤ 17 := by simp only [List.mem_cons, List.not_mem_nil, or_false] at hq; omega
    obtain ⟨qk, rfl⟩ : ∃ j : Nat, qk = j := ⟨qk.toNat, by omega⟩
    clear hSc hq hlt hG qk0
    go_wp2_with fail
    refine (some' _ _ _ _ _ _ qk hS4 (by omega) hl).mono ?_
    rintro e w5 ⟨g1, c1, d1, rfl, L1, Y1, O1, hS5, hG⟩
    have B1 := hid (var_lt hS4.cells)
    replace O1 := hid O1
    replace L1 := hid L1
    have Z1 := hid hS4.bel.size
    clear hS4 hG
    go_wp2_with fail
    have hlt := var_lt hS5.cells
    refine (pick' _ _ _ _ 8 _ _ _ [12, 12, 12, 12, 12, 12, 12, 11] (hS5.later (below_alloc1 w5 _)) (by omega) hl (heap_alloc_new w5 _) (by omega) rfl (by omega) (by omega)).mono ?_
    rintro e w6 ⟨qn, hq, rfl, hS6, hG⟩
    obtain ⟨qn0, qn1⟩ : 0 ≤ qn ∧ qn ≤ 12 := by simp only [List.mem_cons, List.not_mem_nil, or_false] at hq; omega
    obtain ⟨qn, rfl⟩ : ∃ j : Nat, qn = j := ⟨qn.toNat, by omega⟩
    replace O1 := hid (Own.kept (O1.out.below (below_alloc1 w5 _)) hG (Or.inr (Own.ne O1.out B1.out).symm))
    clear hS5 hq hlt hG qn0
    go_wp2_with fail
    refine (some' _ _ _ _ _ _ qn hS6 (by omega) hl).mono ?_
    rintro e w7 ⟨g2, c2, d2, rfl, L2, Y2, O2, hS7, hG⟩
    have B2 := hid (var_lt hS6.cells)
    replace O2 := hid O2
    replace L2 := hid L2
    have Z2 := hid hS6.bel.size
    have D12 := hid (show g1 ≠ g2 by have h1 := World.ownsRow.lt O1.out g1 rfl; have h2 := World.ownsRow.lt O2.out g2 rfl; omega)
    replace O1 := hid (Own.kept O1.out hG (Or.inr (Own.ne O1.out B1.out).symm))
    clear hS6 hG
    go_wp2_with fail
    refine (some' _ _ _ _ _ _ ne hS7 (by omega) hl).mono ?_
    rintro e w8 ⟨g3, c3, d3, rfl, L3, Y3, O3, hS8, hG⟩
    have B3 := hid (var_lt hS7.cells)
    replace O3 := hid O3
    replace L3 := hid L3
    have Z3 := hid hS7.bel.size
    have D13 := hid (show g1 ≠ g3 by have h1 := World.ownsRow.lt O1.out g1 rfl; have h2 := World.ownsRow.lt O3.out g3 rfl; omega)
    have D23 := hid (show g2 ≠ g3 by have h1 := World.ownsRow.lt O2.out g2 rfl; have h2 := World.ownsRow.lt O3.out g3 rfl; omega)
    replace O1 := hid (Own.kept O1.out hG (Or.inr (Own.ne O1.out B1.out).symm))
    replace O2 := hid (Own.kept O2.out hG (Or.inr (Own.ne O2.out B2.out).symm))
    clear hS7 hG
    go_wp2_with fail
    refine (some' _ _ _ _ _ _ np hS8 (by omega) hl).mono ?_
    rintro e w9 ⟨g4, c4, d4, rfl, L4, Y4, O4, hS9, hG⟩
    have B4 := hid (var_lt hS8.cells)
    replace O4 := hid O4
    replace L4 := hid L4
    have Z4 := hid hS8.bel.size
    have D14 := hid (show g1 ≠ g4 by have h1 := World.ownsRow.lt O1.out g1 rfl; have h2 := World.ownsRow.lt O4.out g4 rfl; omega)
    have D24 := hid (show g2 ≠ g4 by have h1 := World.ownsRow.lt O2.out g2 rfl; have h2 := World.ownsRow.lt O4.out g4 rfl; omega)
    have D34 := hid (show g3 ≠ g4 by have h1 := World.ownsRow.lt O3.out g3 rfl; have h2 := World.ownsRow.lt O4.out g4 rfl; omega)
    replace O1 := hid (Own.kept O1.out hG (Or.inr (Own.ne O1.out B1.out).symm))
    replace O2 := hid (Own.kept O2.out hG (Or.inr (Own.ne O2.out B2.out).symm))
    replace O3 := hid (Own.kept O3.out hG (Or.inr (Own.ne O3.out B3.out).symm))
    clear hS8 hG
    have HB := hid hS9.bel
    clear hS9
    go_wp2
    try simp only [Exit.inBlock, Exit.then]
    refine bodyPost_ret (four_results rfl _ _ _) rfl ?_
    exact ⟨g1, c1, g2, c2, g3, c3, g4, c4, d1, d2, d3, d4, by rw [L1.out, L2.out, L3.out, L4.out]; rfl, by rw [L1.out]; omega, by rw [L2.out]; omega, by rw [L3.out]; omega, by rw [L4.out]; omega, Y1, Y2, Y3, Y4, by rw [L1.out]; exact O1.out.mono Z1.out, by rw [L2.out]; exact O2.out.mono Z2.out, by rw [L3.out]; exact O3.out.mono Z3.out, by rw [L4.out]; exact O4.out.mono Z4.out, HB.out, D12.out, D13.out, D23.out⟩
  · go_wp2_with fail
    clear np1 ne1
    have hlt := var_lt hSc.cells
    refine (pick' _ _ _ _ 2 _ _ _ [600, 601] (hSc.later (below_alloc1 wc _)) (by omega) hl (heap_alloc_new wc _) (by omega) rfl (by omega) (by omega)).mono ?_
    rintro e w10 ⟨np, hq, rfl, hS10, hG⟩
    obtain ⟨np0, np1⟩ : 0 ≤ np ∧ np ≤ 601 := by simp only [List.mem_cons, List.not_mem_nil, or_false] at hq; omega
    obtain ⟨np, rfl⟩ : ∃ j : Nat, np = j := ⟨np.toNat, by omega⟩
    clear hSc hq hlt hG np0
    go_wp2_with fail
    have hlt := var_lt hS10.cells
    refine (pick' _ _ _ _ 3 _ _ _ [0, 100, 101] (hS10.later (below_alloc1 w10 _)) (by omega) hl (heap_alloc_new w10 _) (by omega) rfl (by omega) (by omega)).mono ?_
    rintro e w11 ⟨ne, hq, rfl, hS11, hG⟩
    obtain ⟨ne0, ne1⟩ : 0 ≤ ne ∧ ne ≤ 101 := by simp only [List.mem_cons, List.not_mem_nil, or_false] at hq; omega
    obtain ⟨ne, rfl⟩ : ∃ j : Nat, ne = j := ⟨ne.toNat, by omega⟩
    clear hS10 hq hlt hG ne0
    go_wp2_with fail
    have hlt := var_lt hS11.cells
    refine (pick' _ _ _ _ 8 _ _ _ [16, 16, 16, 16, 16, 16, 16, 17] (hS11.later (below_alloc1 w11 _)) (by omega) hl (heap_alloc_new w11 _) (by omega) rfl (by omega) (by omega)).mono ?_
    rintro e w12 ⟨qk, hq, rfl, hS12, hG⟩
    obtain ⟨qk0, qk1⟩ : 0 ≤ qk ∧ qk ≤ 17 := by simp only [List.mem_cons, List.not_mem_nil, or_false] at hq; omega
    obtain ⟨qk, rfl⟩ : ∃ j : Nat, qk = j := ⟨qk.toNat, by omega⟩
    clear hS11 hq hlt hG qk0
    go_wp2_with fail
    refine (some' _ _ _ _ _ _ qk hS12 (by omega) hl).mono ?_
    rintro e w13 ⟨g1, c1, d1, rfl, L1, Y1, O1, hS13, hG⟩
    have B1 := hid (var_lt hS12.cells)
    replace O1 := hid O1
    replace L1 := hid L1
    have Z1 := hid hS12.bel.size
    clear hS12 hG
    go_wp2_with fail
    have hlt := var_lt hS13.cells
    refine (pick' _ _ _ _ 8 _ _ _ [12, 12, 12, 12, 12, 12, 12, 11] (hS13.later (below_alloc1 w13 _)) (by omega) hl (heap_alloc_new w13 _) (by omega) rfl (by omega) (by omega)).mono ?_
    rintro e w14 ⟨qn, hq, rfl, hS14, hG⟩
    obtain ⟨qn0, qn1⟩ : 0 ≤ qn ∧ qn ≤ 12 := by simp only [List.mem_cons, List.not_mem_nil, or_false] at hq; omega
    obtain ⟨qn, rfl⟩ : ∃ j : Nat, qn = j := ⟨qn.toNat, by omega⟩
    replace O1 := hid (Own.kept (O1.out.below (below_alloc1 w13 _)) hG (Or.inr (Own.ne O1.out B1.out).symm))
    clear hS13 hq hlt hG qn0
    go_wp2_with fail
    refine (some' _ _ _ _ _ _ qn hS14 (by omega) hl).mono ?_
    rintro e w15 ⟨g2, c2, d2, rfl, L2, Y2, O2, hS15, hG⟩
    have B2 := hid (var_lt hS14.cells)
    replace O2 := hid O2
    replace L2 := hid L2
    have Z2 := hid hS14.bel.size
    have D12 := hid (show g1 ≠ g2 by have h1 := World.ownsRow.lt O1.out g1 rfl; have h2 := World.ownsRow.lt O2.out g2 rfl; omega)
    replace O1 := hid (Own.kept O1.out hG (Or.inr (Own.ne O1.out B1.out).symm))
    clear hS14 hG
    go_wp2_with fail
    refine (some' _ _ _ _ _ _ ne hS15 (by omega) hl).mono ?_
    rintro e w16 ⟨g3, c3, d3, rfl, L3, Y3, O3, hS16, hG⟩
    have B3 := hid (var_lt hS15.cells)
    replace O3 := hid O3
    replace L3 := hid L3
    have Z3 := hid hS15.bel.size
    have D13 := hid (show g1 ≠ g3 by have h1 := World.ownsRow.lt O1.out g1 rfl; have h2 := World.ownsRow.lt O3.out g3 rfl; omega)
    have D23 := hid (show g2 ≠ g3 by have h1 := World.ownsRow.lt O2.out g2 rfl; have h2 := World.ownsRow.lt O3.out g3 rfl; omega)
    replace O1 := hid (Own.kept O1.out hG (Or.inr (Own.ne O1.out B1.out).symm))
    replace O2 := hid (Own.kept O2.out hG (Or.inr (Own.ne O2.out B2.out).symm))
    clear hS15 hG
    go_wp2_with fail
    refine (some' _ _ _ _ _ _ np hS16 (by omega) hl).mono ?_
    rintro e w17 ⟨g4, c4, d4, rfl, L4, Y4, O4, hS17, hG⟩
    have B4 := hid (var_lt hS16.cells)
    replace O4 := hid O4
    replace L4 := hid L4
    have Z4 := hid hS16.bel.size
    have D14 := hid (show g1 ≠ g4 by have h1 := World.ownsRow.lt O1.out g1 rfl; have h2 := World.ownsRow.lt O4.out g4 rfl; omega)
    have D24 := hid (show g2 ≠ g4 by have h1 := World.ownsRow.lt O2.out g2 rfl; have h2 := World.ownsRow.lt O4.out g4 rfl; omega)
    have D34 := hid (show g3 ≠ g4 by have h1 := World.ownsRow.lt O3.out g3 rfl; have h2 := World.ownsRow.lt O4.out g4 rfl; omega)
    replace O1 := hid (Own.kept O1.out hG (Or.inr (Own.ne O1.out B1.out).symm))
    replace O2 := hid (Own.kept O2.out hG (Or.inr (Own.ne O2.out B2.out).symm))
    replace O3 := hid (Own.kept O3.out hG (Or.inr (Own.ne O3.out B3.out).symm))
    clear hS16 hG
    have HB := hid hS17.bel
    clear hS17
    go_wp2
    try simp only [Exit.inBlock, Exit.then]
    refine bodyPost_ret (four_results rfl _ _ _) rfl ?_
    exact ⟨g1, c1, g2, c2, g3, c3, g4, c4, d1, d2, d3, d4, by rw [L1.out, L2.out, L3.out, L4.out]; rfl, by rw [L1.out]; omega, by rw [L2.out]; omega, by rw [L3.out]; omega, by rw [L4.out]; omega, Y1, Y2, Y3, Y4, by rw [L1.out]; exact O1.out.mono Z1.out, by rw [L2.out]; exact O2.out.mono Z2.out, by rw [L3.out]; exact O3.out.mono Z3.out, by rw [L4.out]; exact O4.out.mono Z4.out, HB.out, D12.out, D13.out, D23.out⟩
end Go.Proofs.Ytckgjghpfjinfab.W
