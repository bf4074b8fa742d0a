/-
  What is drawn for the law of the group: two blocks; a key and what is hashed.
-/
import Derived.Test.YtcmafbgfdddnnaaDrawE
namespace Go.Proofs.Ytcmafbgfdddnnaa.W
open Go.ChangeShapes Go.WideShapes Go.ChangeAt Go.RowKit
open Go.Proofs.Ytcmafbgfdddnnaa.M

set_option maxHeartbeats 1000000 in
set_option maxRecDepth 100000 in
theorem drawGt (v : Value) (l : List Nat) (w : World) (h : Rd w v l) (y : Byt l) (hl : l.length ≤ 1048576) :
    Calls Try.prog 49 #[v] w fun e w' => ∃ (gk ck g c : Nat) (k d : List Nat), e = .returned (.tuple #[.slice (some ⟨gk, 0, none⟩) k.length ck, .slice (some ⟨g, 0, none⟩) d.length c]) ∧ k.length ≤ 16 ∧ d.length ≤ 17 ∧ Byt k ∧ Byt d ∧ Own w' w.heap.size (.slice (some ⟨gk, 0, none⟩) k.length ck) k ∧ Own w' w.heap.size (.slice (some ⟨g, 0, none⟩) d.length c) d ∧ Below w.heap.size w w' := by
  have H := hid h
  obtain ⟨a, cap, rfl, _, _, _⟩ := h.parts
  clear h
  go_enter Try.func49, Try.ntmps49
  go_wp2_with fail
  refine (later1 _ l _ H.out y).mono ?_
  rintro e w1 ⟨rfl, hS⟩
  have hlt := var_lt hS.cells
  go_wp2_with fail
  refine (pick' _ _ _ _ 5 _ _ _ [16, 16, 16, 16, 15] (hS.later (below_alloc1 w1 _)) (by omega) hl (heap_alloc_new w1 _) (by omega) rfl (by omega) (by omega)).mono ?_
  rintro e w2 ⟨n, hn, rfl, hS2, -⟩
  obtain ⟨n0, n1⟩ : 0 ≤ n ∧ n ≤ 16 := by simp only [List.mem_cons, List.not_mem_nil, or_false] at hn; omega
  obtain ⟨n, rfl⟩ : ∃ j : Nat, n = j := ⟨n.toNat, by omega⟩
  clear hS hn hlt n0
  go_wp2_with fail
  refine (some' _ _ _ _ _ _ n hS2 (by omega) hl).mono ?_
  rintro e w3 ⟨g1, c1, d1, rfl, hd1, yd1, hO1, hS3, -⟩
  have z := hS2.bel.size
  have HO := hid (hO1.mono z)
  have HB := hid hS3.bel
  have HD := hid hd1
  have HR := hid (H.out.below hS3.bel)
  clear hO1 hS2 hS3 hd1 z
  go_wp2_with fail
  refine (l2block _ l _ HR.out y hl).mono ?_
  rintro e w4 ⟨g2, c2, d2, rfl, hd2, yd2, hO2, hB4⟩
  have HO2 := hid (hO2.mono HB.out.size)
  have HD2 := hid hd2
  replace HO := hid (HO.out.below hB4)
  replace HB := hid (HB.out.trans (hB4.mono HB.out.size))
  clear hO2 hd2 hB4 HR
  go_wp2
  go_ret2
  exact ⟨g1, c1, g2, c2, d1, d2, by rw [HD.out]; rfl, by rw [HD.out]; omega, HD2.out, yd1, yd2, by rw [HD.out]; exact HO.out, HO2.out, HB.out⟩

set_option maxHeartbeats 2000000 in
set_option maxRecDepth 100000 in
theorem drawHa (v : Value) (l : List Nat) (w : World) (h : Rd w v l) (y : Byt l) (hl : l.length ≤ 1048576) :
    Calls Try.prog 51 #[v] w fun e w' => ∃ (gk ck g c : Nat) (k d : List Nat), e = .returned (.tuple #[.slice (some ⟨gk, 0, none⟩) k.length ck, .slice (some ⟨g, 0, none⟩) d.length c]) ∧ k.length ≤ 17 ∧ d.length ≤ 816 ∧ Byt k ∧ Byt d ∧ Own w' w.heap.size (.slice (some ⟨gk, 0, none⟩) k.length ck) k ∧ Own w' w.heap.size (.slice (some ⟨g, 0, none⟩) d.length c) d ∧ Below w.heap.size w w' := by
  have H := hid h
  obtain ⟨a, cap, rfl, _, _, _⟩ := h.parts
  clear h
  go_enter Try.func51, Try.ntmps51
  go_wp2_with fail
  refine (source _ l _ H.out y).mono ?_
  rintro e w1 ⟨rfl, hS⟩
  have hlt := var_lt hS.cells
  go_wp2_with fail
  refine (pick' _ _ _ _ 5 _ _ _ [0, 16, 32, 48, 17] (hS.later (below_alloc1 w1 _)) (by omega) hl (heap_alloc_new w1 _) (by omega) rfl (by omega) (by omega)).mono ?_
  rintro e w2 ⟨n, hn, rfl, hS2, -⟩
  obtain ⟨n0, n1⟩ : 0 ≤ n ∧ n ≤ 816 := by simp only [List.mem_cons, List.not_mem_nil, or_false] at hn; omega
  clear hS hn hlt
  go_wp2_with fail
  refine (chance _ _ _ _ _ _ 30 hS2 (by omega) (by omega) hl).mono ?_
  rintro e w3 ⟨r, rfl, hS3, -⟩
  clear hS2
  cases r
  · go_wp2_with fail
    have hlt := var_lt hS3.cells
    refine (pick' _ _ _ _ 5 _ _ _ [16, 16, 16, 16, 17] (hS3.later (below_alloc1 w3 _)) (by omega) hl (heap_alloc_new w3 _) (by omega) rfl (by omega) (by omega)).mono ?_
    rintro e w4 ⟨q, hq, rfl, hS4, -⟩
    obtain ⟨q0, q1⟩ : 0 ≤ q ∧ q ≤ 17 := by simp only [List.mem_cons, List.not_mem_nil, or_false] at hq; omega
    obtain ⟨q, rfl⟩ : ∃ j : Nat, q = j := ⟨q.toNat, by omega⟩
    obtain ⟨n, rfl⟩ : ∃ j : Nat, n = j := ⟨n.toNat, by omega⟩
    clear hS3 hq hlt q0 n0
    go_wp2_with fail
    refine (some' _ _ _ _ _ _ q hS4 (by omega) hl).mono ?_
    rintro e w5 ⟨g1, c1, d1, rfl, hd1, yd1, hO1, hS5, -⟩
    have hgl := var_lt hS4.cells
    go_wp2_with fail
    refine (some' _ _ _ _ _ _ n hS5 (by omega) hl).mono ?_
    rintro e w6 ⟨g2, c2, d2, rfl, hd2, yd2, hO2, hS6, hG⟩
    have HO := hid ((Own.kept hO1 hG (Or.inr (Own.ne hO1 hgl).symm)).mono hS4.bel.size)
    have HO2 := hid (hO2.mono hS5.bel.size)
    have HB := hid hS6.bel
    have HD := hid hd1
    have HD2 := hid hd2
    clear hO1 hO2 hS4 hS5 hS6 hG hd1 hd2 hgl
    go_wp2
    go_ret2
    exact ⟨g1, c1, g2, c2, d1, d2, by rw [HD.out, HD2.out]; rfl, by rw [HD.out]; omega, by rw [HD2.out]; omega, yd1, yd2, by rw [HD.out]; exact HO.out, by rw [HD2.out]; exact HO2.out, HB.out⟩
  · go_wp2_with fail
    have hlt := var_lt hS3.cells
    refine (pick' _ _ _ _ 2 _ _ _ [800, 816] (hS3.later (below_alloc1 w3 _)) (by omega) hl (heap_alloc_new w3 _) (by omega) rfl (by omega) (by omega)).mono ?_
    clear n0 n1
    rintro e w3' ⟨n, hn, rfl, hS3', -⟩
    obtain ⟨n0, n1⟩ : 0 ≤ n ∧ n ≤ 816 := by simp only [List.mem_cons, List.not_mem_nil, or_false] at hn; omega
    clear hS3 hn hlt
    go_wp2_with fail
    have hlt := var_lt hS3'.cells
    refine (pick' _ _ _ _ 5 _ _ _ [16, 16, 16, 16, 17] (hS3'.later (below_alloc1 w3' _)) (by omega) hl (heap_alloc_new w3' _) (by omega) rfl (by omega) (by omega)).mono ?_
    rintro e w4 ⟨q, hq, rfl, hS4, -⟩
    obtain ⟨q0, q1⟩ : 0 ≤ q ∧ q ≤ 17 := by simp only [List.mem_cons, List.not_mem_nil, or_false] at hq; omega
    obtain ⟨q, rfl⟩ : ∃ j : Nat, q = j := ⟨q.toNat, by omega⟩
    obtain ⟨n, rfl⟩ : ∃ j : Nat, n = j := ⟨n.toNat, by omega⟩
    clear hS3' hq hlt q0 n0
    go_wp2_with fail
    refine (some' _ _ _ _ _ _ q hS4 (by omega) hl).mono ?_
    rintro e w5 ⟨g1, c1, d1, rfl, hd1, yd1, hO1, hS5, -⟩
    have hgl := var_lt hS4.cells
    go_wp2_with fail
    refine (some' _ _ _ _ _ _ n hS5 (by omega) hl).mono ?_
    rintro e w6 ⟨g2, c2, d2, rfl, hd2, yd2, hO2, hS6, hG⟩
    have HO := hid ((Own.kept hO1 hG (Or.inr (Own.ne hO1 hgl).symm)).mono hS4.bel.size)
    have HO2 := hid (hO2.mono hS5.bel.size)
    have HB := hid hS6.bel
    have HD := hid hd1
    have HD2 := hid hd2
    clear hO1 hO2 hS4 hS5 hS6 hG hd1 hd2 hgl
    go_wp2
    go_ret2
    exact ⟨g1, c1, g2, c2, d1, d2, by rw [HD.out, HD2.out]; rfl, by rw [HD.out]; omega, by rw [HD2.out]; omega, yd1, yd2, by rw [HD.out]; exact HO.out, by rw [HD2.out]; exact HO2.out, HB.out⟩
end Go.Proofs.Ytcmafbgfdddnnaa.W
