/-
  What is drawn for the law of the cipher: a key and a block.
-/
import Derived.Test.YtcmafbgfdddnnaaDrawB
namespace Go.Proofs.Ytcmafbgfdddnnaa.W
open Go.ChangeShapes Go.WideShapes Go.ChangeAt Go.RowKit
open Go.Proofs.Ytcmafbgfdddnnaa.M

set_option maxRecDepth 100000 in
theorem later1 (v : Value) (l : List Nat) (w : World) (h : Rd w v l) (y : Byt l) :
    Calls Try.prog 84 #[v, .int .i64 1] w fun e w' => e = .returned (.pointer (some ⟨w.heap.size, 0, none⟩)) ∧ Src w w' w.heap.size v l 12 := by
  have H := hid h
  obtain ⟨a, cap, rfl, _, _, _⟩ := h.parts
  clear h
  go_enter Try.func84, Try.ntmps84
  go_wp2
  go_ret
  exact ⟨rfl, H.out, y, below_alloc1 w _, Nat.le_refl _, heap_alloc_new w _⟩

set_option maxHeartbeats 1000000 in
set_option maxRecDepth 100000 in
theorem drawEnc (v : Value) (l : List Nat) (w : World) (h : Rd w v l) (y : Byt l) (hl : l.length ≤ 1048576) :
    Calls Try.prog 45 #[v] w fun e w' => ∃ (gk ck g c : Nat) (k d : List Nat), e = .returned (.tuple #[.slice (some ⟨gk, 0, none⟩) k.length ck, .slice (some ⟨g, 0, none⟩) d.length c]) ∧ k.length ≤ 16 ∧ d.length ≤ 17 ∧ Byt k ∧ Byt d ∧ Own w' w.heap.size (.slice (some ⟨gk, 0, none⟩) k.length ck) k ∧ Own w' w.heap.size (.slice (some ⟨g, 0, none⟩) d.length c) d ∧ Below w.heap.size w w' := by
  have H := hid h
  obtain ⟨a, cap, rfl, _, _, _⟩ := h.parts
  clear h
  go_enter Try.func45, Try.ntmps45
  go_wp2_with fail
  refine (later1 _ l _ H.out y).mono ?_
  rintro e w1 ⟨rfl, hS⟩
  have hlt := var_lt hS.cells
  go_wp2_with fail
  refine (pick' _ _ _ _ 5 _ _ _ [16, 16, 16, 16, 15] (hS.later (below_alloc1 w1 _)) (by omega) hl (heap_alloc_new w1 _) (by omega) rfl (by omega) (by omega)).mono ?_
  rintro e w2 ⟨n, hn, rfl, hS2, -⟩
  obtain ⟨n0, n1⟩ : 0 ≤ n ∧ n ≤ 16 := by simp only [List.mem_cons, List.not_mem_nil, or_false] at hn; omega
  obtain ⟨n, rfl⟩ : ∃ j : Nat, n = j := ⟨n.toNat, by omega⟩
  clear hS hn hlt n0
  go_wp2_with fail
  refine (some' _ _ _ _ _ _ n hS2 (by omega) hl).mono ?_
  rintro e w3 ⟨g1, c1, d1, rfl, hd1, yd1, hO1, hS3, -⟩
  have z := hS2.bel.size
  have HO := hid (hO1.mono z)
  have HB := hid hS3.bel
  have HD := hid hd1
  have HR := hid (H.out.below hS3.bel)
  clear hO1 hS2 hS3 hd1 z
  go_wp2_with fail
  refine (l2block _ l _ HR.out y hl).mono ?_
  rintro e w4 ⟨g2, c2, d2, rfl, hd2, yd2, hO2, hB4⟩
  have HO2 := hid (hO2.mono HB.out.size)
  have HD2 := hid hd2
  replace HO := hid (HO.out.below hB4)
  replace HB := hid (HB.out.trans (hB4.mono HB.out.size))
  clear hO2 hd2 hB4 HR
  go_wp2
  go_ret2
  exact ⟨g1, c1, g2, c2, d1, d2, by rw [HD.out]; rfl, by rw [HD.out]; omega, HD2.out, yd1, yd2, by rw [HD.out]; exact HO.out, HO2.out, HB.out⟩
end Go.Proofs.Ytcmafbgfdddnnaa.W
