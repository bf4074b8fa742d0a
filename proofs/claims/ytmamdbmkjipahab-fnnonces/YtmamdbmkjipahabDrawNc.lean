/-
  What the model's DrawNonceOf and DrawHeadOf answer, as far as a law needs it.
-/
import Derived.Test.YtmamdbmkjipahabSrc
import Derived.Test.YtmamdbmkjipahabSrcL
namespace Go.Proofs.Ytmamdbmkjipahab.W
open Go.ChangeShapes Go.WideShapes Go.ChangeAt Go.RowKit
open Go.Proofs.Ytmamdbmkjipahab.M

set_option maxRecDepth 100000 in
theorem drawNc (v : Value) (l : List Nat) (w : World) (h : Rd w v l) (y : Byt l) (hl : l.length ≤ 1048576) :
    Calls Try.prog 44 #[v] w fun e w' => ∃ s c : Int, Hid (-1 ≤ s ∧ s ≤ 16 ∧ -1 ≤ c ∧ c ≤ 1000000001) ∧ e = .returned (.tuple #[.int .i64 s, .int .i64 c]) ∧ Below w.heap.size w w' := by
  have H := hid h
  obtain ⟨a, cap, rfl, _, _, _⟩ := h.parts
  clear h
  go_enter Try.func44, Try.ntmps44
  go_wp2_with fail
  refine (source _ l _ H.out y).mono ?_
  rintro e w1 ⟨rfl, hS⟩
  have hlt := var_lt hS.cells
  go_wp2_with fail
  refine (pick' _ _ _ _ 5 _ _ _ [0, 1, 15, 16, -1] (hS.later (below_alloc1 w1 _)) (by omega) hl (heap_alloc_new w1 _) (by omega) rfl (by omega) (by omega)).mono ?_
  rintro e w2 ⟨n, hn, rfl, hS2, -⟩
  have HN := hid hn
  have hlt2 := var_lt hS2.cells
  clear hS hn hlt
  go_wp2_with fail
  refine (pick' _ _ _ _ 6 _ _ _ [0, 1, 256, 1000000000, 1000000001, -1] (hS2.later (below_alloc1 w2 _)) (by omega) hl (heap_alloc_new w2 _) (by omega) rfl (by omega) (by omega)).mono ?_
  rintro e w3 ⟨s, hs, rfl, hS3, -⟩
  have HSz := hid hs
  have HB := hid hS3.bel
  clear hS2 hS3 hs hlt2
  go_wp2
  go_ret2
  refine ⟨n, s, ?_, rfl, HB.out⟩
  have h1 := HN.out
  have h2 := HSz.out
  unfold Hid
  simp only [List.mem_cons, List.not_mem_nil, or_false] at h1 h2
  omega
set_option maxRecDepth 100000 in
theorem drawHo (v : Value) (l : List Nat) (w : World) (h : Rd w v l) (y : Byt l) (hl : l.length ≤ 1048576) :
    Calls Try.prog 46 #[v] w fun e w' => ∃ k s c : Int, Hid (0 ≤ k ∧ k ≤ 256 ∧ -1 ≤ s ∧ s ≤ 16 ∧ -1 ≤ c ∧ c ≤ 1000000001) ∧ e = .returned (.tuple #[.int .i64 k, .int .i64 s, .int .i64 c]) ∧ Below w.heap.size w w' := by
  have H := hid h
  obtain ⟨a, cap, rfl, _, _, _⟩ := h.parts
  clear h
  go_enter Try.func46, Try.ntmps46
  go_wp2_with fail
  refine (drawNc _ l _ H.out y hl).mono ?_
  rintro e w1 ⟨s, c, hsc, rfl, hB⟩
  have HSC := hid hsc
  have B1 := hid hB
  replace H := hid (H.out.below hB)
  clear hB hsc
  go_wp2_with fail
  have c1 : ((1 : Nat) : Int) = 1 := rfl
  refine (laterOn _ l 1 _ H.out y (by omega)).mono ?_
  rintro e w2 ⟨rfl, hS⟩
  have hlt := var_lt hS.cells
  go_wp2_with fail
  refine (pick' _ _ _ _ 5 _ _ _ [1, 2, 255, 256, 0] (hS.later (below_alloc1 w2 _)) (by omega) hl (heap_alloc_new w2 _) (by omega) rfl (by omega) (by omega)).mono ?_
  rintro e w3 ⟨n, hn, rfl, hS2, -⟩
  have HN := hid hn
  have HB := hid (B1.out.trans (hS2.bel.mono B1.out.size))
  clear hS hn hlt hS2
  go_wp2
  go_ret3
  refine ⟨n, s, c, ?_, rfl, HB.out⟩
  have h1 := HN.out
  have h2 := HSC.out.out
  unfold Hid
  simp only [List.mem_cons, List.not_mem_nil, or_false] at h1
  omega
end Go.Proofs.Ytmamdbmkjipahab.W
