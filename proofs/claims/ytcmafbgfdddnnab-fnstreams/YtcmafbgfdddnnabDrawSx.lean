/-
  What is drawn for the law of streams: a key, a block, what is hidden.
-/
import Derived.Test.YtcmafbgfdddnnabDrawC
import Derived.Test.YtcmafbgfdddnnabSrcL
import Derived.OwnWalk
namespace Go.Proofs.Ytcmafbgfdddnnab.W
open Go.ChangeShapes Go.WideShapes Go.ChangeAt Go.RowKit
open Go.Proofs.Ytcmafbgfdddnnab.M

set_option maxHeartbeats 4000000 in
set_option maxRecDepth 100000 in
theorem drawSx (v : Value) (l : List Nat) (w : World) (h : Rd w v l) (y : Byt l) (hl : l.length ≤ 1048576) :
    Calls Try.prog 8 #[v] w fun e w' => ∃ (g1 c1 g2 c2 g3 c3 : Nat) (k b p : List Nat), e = .returned (.tuple #[.slice (some ⟨g1, 0, none⟩) k.length c1, .slice (some ⟨g2, 0, none⟩) b.length c2, .slice (some ⟨g3, 0, none⟩) p.length c3]) ∧ k.length ≤ 16 ∧ b.length ≤ 17 ∧ p.length ≤ 601 ∧ Byt k ∧ Byt b ∧ Byt p ∧ Own w' w.heap.size (.slice (some ⟨g1, 0, none⟩) k.length c1) k ∧ Own w' w.heap.size (.slice (some ⟨g2, 0, none⟩) b.length c2) b ∧ Own w' w.heap.size (.slice (some ⟨g3, 0, none⟩) p.length c3) p ∧ Below w.heap.size w w' := by
  have H := hid h
  obtain ⟨a, cap, rfl, _, _, _⟩ := h.parts
  clear h
  go_enter Try.func8, Try.ntmps8
  go_wp2_with fail
  refine (laterOn _ l 1 _ H.out y (by omega)).mono ?_
  rintro e w1 ⟨rfl, hS1⟩
  go_wp2_with fail
  have hlt := var_lt hS1.cells
  refine (pick' _ _ _ _ 5 _ _ _ [0, 1, 16, 17, 40] (hS1.later (below_alloc1 w1 _)) (by omega) hl (heap_alloc_new w1 _) (by omega) rfl (by omega) (by omega)).mono ?_
  rintro e w2 ⟨np, hq, rfl, hS2, hG⟩
  obtain ⟨np0, np1⟩ : 0 ≤ np ∧ np ≤ 601 := by simp only [List.mem_cons, List.not_mem_nil, or_false] at hq; omega
  obtain ⟨np, rfl⟩ : ∃ j : Nat, np = j := ⟨np.toNat, by omega⟩
  clear hS1 hq hlt hG np0
  go_wp2_with fail
  refine (chance _ _ _ _ _ _ 40 hS2 (by omega) (by omega) hl).mono ?_
  rintro e wc ⟨r, rfl, hSc, -⟩
  clear hS2
  cases r
  · go_wp2_with fail
    have hlt := var_lt hSc.cells
    refine (pick' _ _ _ _ 5 _ _ _ [16, 16, 16, 16, 15] (hSc.later (below_alloc1 wc _)) (by omega) hl (heap_alloc_new wc _) (by omega) rfl (by omega) (by omega)).mono ?_
    rintro e w3 ⟨qk, hq, rfl, hS3, hG⟩
    obtain ⟨qk0, qk1⟩ : 0 ≤ qk ∧ qk ≤ 16 := by simp only [List.mem_cons, List.not_mem_nil, or_false] at hq; omega
    obtain ⟨qk, rfl⟩ : ∃ j : Nat, qk = j := ⟨qk.toNat, by omega⟩
    clear hSc hq hlt hG qk0
    go_wp2_with fail
    refine (some' _ _ _ _ _ _ qk hS3 (by omega) hl).mono ?_
    rintro e w4 ⟨g1, c1, d1, rfl, L1, Y1, O1, hS4, hG⟩
    have B1 := hid (var_lt hS3.cells)
    replace O1 := hid O1
    replace L1 := hid L1
    have Z1 := hid hS3.bel.size
    clear hS3 hG
    go_wp2_with fail
    refine (drawCu _ l _ (H.out.below hS4.bel) y hl).mono ?_
    rintro e wd ⟨g2, c2, d2, rfl, L2, Y2, O2, hB⟩
    have B2 := hid (Nat.lt_of_lt_of_le (var_lt hS4.cells) (Nat.le_refl _))
    have Z2 := hid hS4.bel.size
    replace O1 := hid (O1.out.below hB)
    replace O2 := hid O2
    replace L2 := hid L2
    have hSd := hS4.later hB
    clear hS4 hB
    go_wp2_with fail
    refine (some' _ _ _ _ _ _ np hSd (by omega) hl).mono ?_
    rintro e w5 ⟨g3, c3, d3, rfl, L3, Y3, O3, hS5, hG⟩
    have B3 := hid (var_lt hSd.cells)
    replace O3 := hid O3
    replace L3 := hid L3
    have Z3 := hid hSd.bel.size
    replace O1 := hid (Own.kept O1.out hG (Or.inr (Own.ne O1.out B1.out).symm))
    replace O2 := hid (Own.kept O2.out hG (Or.inr (Own.ne O2.out B2.out).symm))
    clear hSd hG
    have HB := hid hS5.bel
    clear hS5
    go_wp2
    go_ret3
    exact ⟨g1, c1, g2, c2, g3, c3, d1, d2, d3, by rw [L1.out, L3.out]; rfl, by rw [L1.out]; omega, L2.out, by rw [L3.out]; omega, Y1, Y2, Y3, by rw [L1.out]; exact O1.out.mono Z1.out, O2.out.mono Z2.out, by rw [L3.out]; exact O3.out.mono Z3.out, HB.out⟩
  · go_wp2_with fail
    clear np1
    have hlt := var_lt hSc.cells
    refine (pick' _ _ _ _ 2 _ _ _ [600, 601] (hSc.later (below_alloc1 wc _)) (by omega) hl (heap_alloc_new wc _) (by omega) rfl (by omega) (by omega)).mono ?_
    rintro e w6 ⟨np, hq, rfl, hS6, hG⟩
    obtain ⟨np0, np1⟩ : 0 ≤ np ∧ np ≤ 601 := by simp only [List.mem_cons, List.not_mem_nil, or_false] at hq; omega
    obtain ⟨np, rfl⟩ : ∃ j : Nat, np = j := ⟨np.toNat, by omega⟩
    clear hSc hq hlt hG np0
    go_wp2_with fail
    have hlt := var_lt hS6.cells
    refine (pick' _ _ _ _ 5 _ _ _ [16, 16, 16, 16, 15] (hS6.later (below_alloc1 w6 _)) (by omega) hl (heap_alloc_new w6 _) (by omega) rfl (by omega) (by omega)).mono ?_
    rintro e w7 ⟨qk, hq, rfl, hS7, hG⟩
    obtain ⟨qk0, qk1⟩ : 0 ≤ qk ∧ qk ≤ 16 := by simp only [List.mem_cons, List.not_mem_nil, or_false] at hq; omega
    obtain ⟨qk, rfl⟩ : ∃ j : Nat, qk = j := ⟨qk.toNat, by omega⟩
    clear hS6 hq hlt hG qk0
    go_wp2_with fail
    refine (some' _ _ _ _ _ _ qk hS7 (by omega) hl).mono ?_
    rintro e w8 ⟨g1, c1, d1, rfl, L1, Y1, O1, hS8, hG⟩
    have B1 := hid (var_lt hS7.cells)
    replace O1 := hid O1
    replace L1 := hid L1
    have Z1 := hid hS7.bel.size
    clear hS7 hG
    go_wp2_with fail
    refine (drawCu _ l _ (H.out.below hS8.bel) y hl).mono ?_
    rintro e wd ⟨g2, c2, d2, rfl, L2, Y2, O2, hB⟩
    have B2 := hid (Nat.lt_of_lt_of_le (var_lt hS8.cells) (Nat.le_refl _))
    have Z2 := hid hS8.bel.size
    replace O1 := hid (O1.out.below hB)
    replace O2 := hid O2
    replace L2 := hid L2
    have hSd := hS8.later hB
    clear hS8 hB
    go_wp2_with fail
    refine (some' _ _ _ _ _ _ np hSd (by omega) hl).mono ?_
    rintro e w9 ⟨g3, c3, d3, rfl, L3, Y3, O3, hS9, hG⟩
    have B3 := hid (var_lt hSd.cells)
    replace O3 := hid O3
    replace L3 := hid L3
    have Z3 := hid hSd.bel.size
    replace O1 := hid (Own.kept O1.out hG (Or.inr (Own.ne O1.out B1.out).symm))
    replace O2 := hid (Own.kept O2.out hG (Or.inr (Own.ne O2.out B2.out).symm))
    clear hSd hG
    have HB := hid hS9.bel
    clear hS9
    go_wp2
    go_ret3
    exact ⟨g1, c1, g2, c2, g3, c3, d1, d2, d3, by rw [L1.out, L3.out]; rfl, by rw [L1.out]; omega, L2.out, by rw [L3.out]; omega, Y1, Y2, Y3, by rw [L1.out]; exact O1.out.mono Z1.out, O2.out.mono Z2.out, by rw [L3.out]; exact O3.out.mono Z3.out, HB.out⟩
end Go.Proofs.Ytcmafbgfdddnnab.W
