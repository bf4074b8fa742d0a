/-
  What is drawn for the law of keys: a key, and the number of a round.
-/
import Derived.Test.YtcmafbgfdddnnaaSome
import Derived.Test.YtcmafbgfdddnnaaSlX
namespace Go.Proofs.Ytcmafbgfdddnnaa.W
open Go.ChangeShapes Go.WideShapes Go.ChangeAt Go.RowKit
open Go.Proofs.Ytcmafbgfdddnnaa.M

set_option maxHeartbeats 1000000 in
set_option maxRecDepth 100000 in
theorem drawKw (v : Value) (l : List Nat) (w : World) (h : Rd w v l) (y : Byt l) (hl : l.length ≤ 1048576) :
    Calls Try.prog 30 #[v] w fun e w' => ∃ (g c : Nat) (d : List Nat), e = .returned (.slice (some ⟨g, 0, none⟩) d.length c) ∧ d.length ≤ 17 ∧ Byt d ∧ Own w' w.heap.size (.slice (some ⟨g, 0, none⟩) d.length c) d ∧ Below w.heap.size w w' := by
  have H := hid h
  obtain ⟨a, cap, rfl, _, _, _⟩ := h.parts
  clear h
  go_enter Try.func30, Try.ntmps30
  go_wp2_with fail
  refine (source _ l _ H.out y).mono ?_
  rintro e w1 ⟨rfl, hS⟩
  have hlt := var_lt hS.cells
  go_wp2_with fail
  refine (pick' _ _ _ _ 5 _ _ _ [16, 16, 16, 15, 17] (hS.later (below_alloc1 w1 _)) (by omega) hl (heap_alloc_new w1 _) (by omega) rfl (by omega) (by omega)).mono ?_
  rintro e w2 ⟨n, hn, rfl, hS2, -⟩
  obtain ⟨n0, n1⟩ : 0 ≤ n ∧ n ≤ 17 := by simp only [List.mem_cons, List.not_mem_nil, or_false] at hn; omega
  obtain ⟨n, rfl⟩ : ∃ j : Nat, n = j := ⟨n.toNat, by omega⟩
  clear hS hn hlt n0
  go_wp2_with fail
  refine (some' _ _ _ _ _ _ n hS2 (by omega) hl).mono ?_
  rintro e w3 ⟨g1, c1, d1, rfl, hd1, yd1, hO1, hS3, -⟩
  have z := hS2.bel.size
  have HO := hid (hO1.mono z)
  have HB := hid hS3.bel
  have HD := hid hd1
  clear hO1 hS2 hS3 hd1
  go_wp2
  go_ret
  exact ⟨g1, c1, d1, by rw [HD.out]; rfl, by rw [HD.out]; omega, yd1, by rw [HD.out]; exact HO.out, HB.out⟩

set_option maxHeartbeats 1000000 in
set_option maxRecDepth 100000 in
theorem drawRc (v : Value) (l : List Nat) (w : World) (h : Rd w v l) (y : Byt l) (hl : l.length ≤ 1048576) :
    Calls Try.prog 32 #[v] w fun e w' => ∃ r : Int, e = .returned (.int .i64 r) ∧ Below w.heap.size w w' := by
  have H := hid h
  obtain ⟨a, cap, rfl, _, _, _⟩ := h.parts
  clear h
  go_enter Try.func32, Try.ntmps32
  go_wp2_with fail
  refine (source _ l _ H.out y).mono ?_
  rintro e w1 ⟨rfl, hS⟩
  have hlt := var_lt hS.cells
  go_wp2_with fail
  refine (pick' _ _ _ _ 7 _ _ _ [1, 2, 8, 9, 10, 0, 11] (hS.later (below_alloc1 w1 _)) (by omega) hl (heap_alloc_new w1 _) (by omega) rfl (by omega) (by omega)).mono ?_
  rintro e w2 ⟨n, -, rfl, hS2, -⟩
  have HB := hid hS2.bel
  clear hS hS2 hlt
  go_wp2
  go_ret
  exact ⟨_, rfl, HB.out⟩
end Go.Proofs.Ytcmafbgfdddnnaa.W
