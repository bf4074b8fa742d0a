/-
  What is drawn for the law of the field: bytes.
-/
import Derived.Test.YtaopocjagikacaaSrc
namespace Go.Proofs.Ytaopocjagikacaa.W
open Go.ChangeShapes Go.WideShapes Go.ChangeAt Go.RowKit
open Go.Proofs.Ytaopocjagikacaa.M

set_option maxRecDepth 100000 in
theorem drawInv (v : Value) (l : List Nat) (w : World) (h : Rd w v l) (y : Byt l) (hl : l.length ≤ 1048576) :
    Calls Try.prog 10 #[v] w fun e w' => ∃ a : Nat, a < 256 ∧ e = .returned (.int .u8 (a : Int)) ∧ Below w.heap.size w w' := by
  have H := hid h
  obtain ⟨a, cap, rfl, _, _, _⟩ := h.parts
  clear h
  go_enter Try.func10, Try.ntmps10
  go_wp2_with fail
  refine (source _ l _ H.out y).mono ?_
  rintro e w1 ⟨rfl, hS⟩
  go_wp2_with fail
  refine (next _ _ _ _ _ _ _ hS (by omega) (by omega) hl).mono ?_
  rintro e w2 ⟨r, rfl, hr, hS2, hG⟩
  obtain ⟨r0, r1⟩ := hr (by omega)
  obtain ⟨j, rfl⟩ : ∃ j : Nat, r = j := ⟨r.toNat, by omega⟩
  have j1 : j < 256 := by omega
  have HB := hid hS2.bel
  clear hS hS2 hG hr
  go_wp2
  go_ret
  exact ⟨j, j1, rfl, HB.out⟩

set_option maxRecDepth 100000 in
theorem drawSub (v : Value) (l : List Nat) (w : World) (h : Rd w v l) (y : Byt l) (hl : l.length ≤ 1048576) :
    Calls Try.prog 11 #[v] w fun e w' => ∃ a : Nat, a < 256 ∧ e = .returned (.int .u8 (a : Int)) ∧ Below w.heap.size w w' := by
  have H := hid h
  obtain ⟨a, cap, rfl, _, _, _⟩ := h.parts
  clear h
  go_enter Try.func11, Try.ntmps11
  go_wp2_with fail
  refine (source _ l _ H.out y).mono ?_
  rintro e w1 ⟨rfl, hS⟩
  go_wp2_with fail
  refine (next _ _ _ _ _ _ _ hS (by omega) (by omega) hl).mono ?_
  rintro e w2 ⟨r, rfl, hr, hS2, hG⟩
  obtain ⟨r0, r1⟩ := hr (by omega)
  obtain ⟨j, rfl⟩ : ∃ j : Nat, r = j := ⟨r.toNat, by omega⟩
  have j1 : j < 256 := by omega
  have HB := hid hS2.bel
  clear hS hS2 hG hr
  go_wp2
  go_ret
  exact ⟨j, j1, rfl, HB.out⟩

set_option maxRecDepth 100000 in
theorem drawFT (v : Value) (l : List Nat) (w : World) (h : Rd w v l) (y : Byt l) (hl : l.length ≤ 1048576) :
    Calls Try.prog 9 #[v] w fun e w' => ∃ a b : Nat, a < 256 ∧ b < 256 ∧ e = .returned (.tuple #[.int .u8 (a : Int), .int .u8 (b : Int)]) ∧ Below w.heap.size w w' := by
  have H := hid h
  obtain ⟨a, cap, rfl, _, _, _⟩ := h.parts
  clear h
  go_enter Try.func9, Try.ntmps9
  go_wp2_with fail
  refine (source _ l _ H.out y).mono ?_
  rintro e w1 ⟨rfl, hS⟩
  go_wp2_with fail
  refine (next _ _ _ _ _ _ _ hS (by omega) (by omega) hl).mono ?_
  rintro e w2 ⟨r, rfl, hr, hS2, -⟩
  obtain ⟨r0, r1⟩ := hr (by omega)
  obtain ⟨j, rfl⟩ : ∃ j : Nat, r = j := ⟨r.toNat, by omega⟩
  have j1 : j < 256 := by omega
  clear hS hr r0 r1
  go_wp2_with fail
  refine (next _ _ _ _ _ _ _ hS2 (by omega) (by omega) hl).mono ?_
  rintro e w3 ⟨k, rfl, hk, hS3, -⟩
  obtain ⟨k0, k1⟩ := hk (by omega)
  clear hS2 hk
  go_wp2_with fail
  refine (next _ _ _ _ _ _ _ hS3 (by omega) (by omega) hl).mono ?_
  rintro e w4 ⟨m, rfl, hm, hS4, -⟩
  obtain ⟨m0, m1⟩ := hm (by omega)
  have hlt := var_lt hS4.cells
  clear hS3 hm
  go_wp2_with fail
  refine (pick' _ _ _ _ 7 _ _ _ [0, 1, 2, 3, 128, k, m] (hS4.later (below_alloc1 w4 _)) (by omega) hl (heap_alloc_new w4 _) (by omega) rfl (by omega) (by omega)).mono ?_
  rintro e w5 ⟨x, hx, rfl, hS5, -⟩
  obtain ⟨x0, x1⟩ : 0 ≤ x ∧ x < 256 := by
    simp only [List.mem_cons, List.not_mem_nil, or_false] at hx
    omega
  obtain ⟨b, rfl⟩ : ∃ j : Nat, x = j := ⟨x.toNat, by omega⟩
  have b1 : b < 256 := by omega
  have HB := hid hS5.bel
  clear hS4 hS5 hx x0 x1 k0 k1 m0 m1
  go_wp2
  go_ret2
  exact ⟨j, b, j1, b1, rfl, HB.out⟩
end Go.Proofs.Ytaopocjagikacaa.W
