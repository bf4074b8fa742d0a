/-
  The numbers of a claim: what the program's nodeNumber, seqNumber and claimNumbers answer.
-/
import Derived.Test.YtalaolfcdaaaoaaNumW
namespace Go.Proofs.Ytalaolfcdaaaoaa.W
open Go.ChangeShapes Go.WideShapes Go.ChangeAt Go.RowKit
open Go.Proofs.Ytalaolfcdaaaoaa.M

set_option maxRecDepth 100000 in
theorem nodn (b o : Nat) (w : World) :
    Calls Try.prog 141 #[.pointer (some ⟨b, o, none⟩)] w fun e w' => e = .returned (.agg #[.pointer (some ⟨b, o, none⟩), .int .i64 1, .int .i64 0, .int .i64 3]) ∧ Below w.heap.size w w' := by
  go_enter Try.func141, Try.ntmps141
  go_wp2
  exact bodyPost_ret (v := .agg #[.pointer (some ⟨b, o, none⟩), .int .i64 1, .int .i64 0, .int .i64 3]) (results_cell_row rfl _ _ w.heap.size 174 _ _ _ rfl (heap_alloc_new w _) Try.underlying174 rfl (by kernel_rfl)) rfl ⟨rfl, below_alloc1 w _⟩
/-- A slice of one place. -/
theorem rdN1 {w : World} {g : Nat} {n0 : Num} (h : w.heap[g]? = some (.cells #[.pointer (some ⟨n0.b, n0.o, none⟩), .int .i64 n0.sz, .int .i64 n0.lo, .int .i64 n0.hi] 174)) : RdN w (.slice (some ⟨g, 0, none⟩) 1 1) [n0] :=
  ⟨g, rfl, by simp, ⟨_, h⟩, fun i hi => by
    obtain rfl : i = 0 := by simpa using hi
    exact ⟨by rw [cell_of_row w g 0 _ _ _ h]; rfl, by rw [cell_of_row w g 1 _ _ _ h]; rfl, by rw [cell_of_row w g 2 _ _ _ h]; rfl, by rw [cell_of_row w g 3 _ _ _ h]; rfl⟩⟩
/-- A slice of two places. -/
theorem rdN2 {w : World} {g : Nat} {n0 n1 : Num} (h : w.heap[g]? = some (.cells #[.pointer (some ⟨n0.b, n0.o, none⟩), .int .i64 n0.sz, .int .i64 n0.lo, .int .i64 n0.hi, .pointer (some ⟨n1.b, n1.o, none⟩), .int .i64 n1.sz, .int .i64 n1.lo, .int .i64 n1.hi] 174)) : RdN w (.slice (some ⟨g, 0, none⟩) 2 2) [n0, n1] :=
  ⟨g, rfl, by simp, ⟨_, h⟩, fun i hi => by
    match i, hi with
    | 0, _ => exact ⟨by rw [cell_of_row w g 0 _ _ _ h]; rfl, by rw [cell_of_row w g 1 _ _ _ h]; rfl, by rw [cell_of_row w g 2 _ _ _ h]; rfl, by rw [cell_of_row w g 3 _ _ _ h]; rfl⟩
    | 1, _ => exact ⟨by rw [cell_of_row w g 4 _ _ _ h]; rfl, by rw [cell_of_row w g 5 _ _ _ h]; rfl, by rw [cell_of_row w g 6 _ _ _ h]; rfl, by rw [cell_of_row w g 7 _ _ _ h]; rfl⟩⟩
/-- A slice of four places. -/
theorem rdN4 {w : World} {g : Nat} {n0 n1 n2 n3 : Num} (h : w.heap[g]? = some (.cells #[.pointer (some ⟨n0.b, n0.o, none⟩), .int .i64 n0.sz, .int .i64 n0.lo, .int .i64 n0.hi, .pointer (some ⟨n1.b, n1.o, none⟩), .int .i64 n1.sz, .int .i64 n1.lo, .int .i64 n1.hi, .pointer (some ⟨n2.b, n2.o, none⟩), .int .i64 n2.sz, .int .i64 n2.lo, .int .i64 n2.hi, .pointer (some ⟨n3.b, n3.o, none⟩), .int .i64 n3.sz, .int .i64 n3.lo, .int .i64 n3.hi] 174)) : RdN w (.slice (some ⟨g, 0, none⟩) 4 4) [n0, n1, n2, n3] :=
  ⟨g, rfl, by simp, ⟨_, h⟩, fun i hi => by
    match i, hi with
    | 0, _ => exact ⟨by rw [cell_of_row w g 0 _ _ _ h]; rfl, by rw [cell_of_row w g 1 _ _ _ h]; rfl, by rw [cell_of_row w g 2 _ _ _ h]; rfl, by rw [cell_of_row w g 3 _ _ _ h]; rfl⟩
    | 1, _ => exact ⟨by rw [cell_of_row w g 4 _ _ _ h]; rfl, by rw [cell_of_row w g 5 _ _ _ h]; rfl, by rw [cell_of_row w g 6 _ _ _ h]; rfl, by rw [cell_of_row w g 7 _ _ _ h]; rfl⟩
    | 2, _ => exact ⟨by rw [cell_of_row w g 8 _ _ _ h]; rfl, by rw [cell_of_row w g 9 _ _ _ h]; rfl, by rw [cell_of_row w g 10 _ _ _ h]; rfl, by rw [cell_of_row w g 11 _ _ _ h]; rfl⟩
    | 3, _ => exact ⟨by rw [cell_of_row w g 12 _ _ _ h]; rfl, by rw [cell_of_row w g 13 _ _ _ h]; rfl, by rw [cell_of_row w g 14 _ _ _ h]; rfl, by rw [cell_of_row w g 15 _ _ _ h]; rfl⟩⟩
set_option maxHeartbeats 1000000 in
set_option maxRecDepth 100000 in
theorem clnu (b o : Nat) (w : World) :
    Calls Try.prog 121 #[.pointer (some ⟨b, o, none⟩)] w fun e w' => ∃ v, e = .returned v ∧ RdN w' v [⟨b, o, 1, 0, 3⟩, ⟨b, o + 1, 4, 0, 1000000⟩, ⟨b, o + 2, 1, 0, 2⟩, ⟨b, o + 3, 4, 0, 9999999⟩] ∧ Below w.heap.size w w' := by
  go_enter Try.func121, Try.ntmps121
  go_wp2_with fail
  refine wp_region_held_drew (S := fun w' => Below w.heap.size w w') (by kernel_rfl) (Below.refl _ _).drew (fun hH => ?_)
  generalize w.drew = x at hH ⊢
  refine wpAnyH_take (i := 0) (v := .pointer (some ⟨b, o, none⟩)) (by simp only [List.getElem?_toArray, List.getElem?_cons_zero]; rfl) (by kernel_rfl) (by kernel_rfl) (by kernel_rfl) (by intro _ _ _ h; exact h) (Or.inl ⟨by rfl, fun w hS => by go_simp⟩) hH ?_
  simp only [Act.put, List.setIfInBounds_toArray, List.set_cons_zero, List.set_cons_succ]
  refine wpAnyH_take (i := 1) (v := .pointer (some ⟨b, o, none⟩)) (by simp only [List.getElem?_toArray, List.getElem?_cons_succ, List.getElem?_cons_zero]; rfl) (by kernel_rfl) (by kernel_rfl) (by kernel_rfl) (by intro _ _ _ h; exact h) (Or.inl ⟨by rfl, fun w hS => by go_simp⟩) hH ?_
  simp only [Act.put, List.setIfInBounds_toArray, List.set_cons_zero, List.set_cons_succ]
  refine wpAnyH_take (i := 2) (v := .pointer (some ⟨b, o, none⟩)) (by simp only [List.getElem?_toArray, List.getElem?_cons_succ, List.getElem?_cons_zero]; rfl) (by kernel_rfl) (by kernel_rfl) (by kernel_rfl) (by intro _ _ _ h; exact h) (Or.inl ⟨by rfl, fun w hS => by go_simp⟩) hH ?_
  simp only [Act.put, List.setIfInBounds_toArray, List.set_cons_zero, List.set_cons_succ]
  refine wpAnyH_take (i := 4) (v := .pointer (some ⟨b, o, none⟩)) (by simp only [List.getElem?_toArray, List.getElem?_cons_succ, List.getElem?_cons_zero]; rfl) (by kernel_rfl) (by kernel_rfl) (by kernel_rfl) (by intro _ _ _ h; exact h) (Or.inl ⟨by rfl, fun w hS => by go_simp⟩) hH ?_
  simp only [Act.put, List.setIfInBounds_toArray, List.set_cons_zero, List.set_cons_succ]
  refine wpAnyH_take (i := 5) (v := .pointer (some ⟨b, o, none⟩)) (by simp only [List.getElem?_toArray, List.getElem?_cons_succ, List.getElem?_cons_zero]; rfl) (by kernel_rfl) (by kernel_rfl) (by kernel_rfl) (by intro _ _ _ h; exact h) (Or.inl ⟨by rfl, fun w hS => by go_simp⟩) hH ?_
  simp only [Act.put, List.setIfInBounds_toArray, List.set_cons_zero, List.set_cons_succ]
  refine wpAnyH_take (i := 6) (v := .pointer (some ⟨b, o + 1, none⟩)) (by simp only [List.getElem?_toArray, List.getElem?_cons_succ, List.getElem?_cons_zero]; rfl) (by kernel_rfl) (by kernel_rfl) (by kernel_rfl) (by intro _ _ _ h; exact h) (Or.inl ⟨by rfl, fun w hS => by go_simp⟩) hH ?_
  simp only [Act.put, List.setIfInBounds_toArray, List.set_cons_zero, List.set_cons_succ]
  refine wpAnyH_take (i := 7) (v := .agg #[.pointer (some ⟨b, o + 1, none⟩), .int .i64 4, .int .i64 0, .int .i64 1000000]) (by simp only [List.getElem?_toArray, List.getElem?_cons_succ, List.getElem?_cons_zero]; rfl) (by kernel_rfl) (by kernel_rfl) (by kernel_rfl) (by intro _ _ _ h; exact h) (Or.inl ⟨by rfl, fun w hS => by go_simp⟩) hH ?_
  simp only [Act.put, List.setIfInBounds_toArray, List.set_cons_zero, List.set_cons_succ]
  refine wpAnyH_take (i := 8) (v := .pointer (some ⟨b, o, none⟩)) (by simp only [List.getElem?_toArray, List.getElem?_cons_succ, List.getElem?_cons_zero]; rfl) (by kernel_rfl) (by kernel_rfl) (by kernel_rfl) (by intro _ _ _ h; exact h) (Or.inl ⟨by rfl, fun w hS => by go_simp⟩) hH ?_
  simp only [Act.put, List.setIfInBounds_toArray, List.set_cons_zero, List.set_cons_succ]
  refine wpAnyH_take (i := 9) (v := .pointer (some ⟨b, o, none⟩)) (by simp only [List.getElem?_toArray, List.getElem?_cons_succ, List.getElem?_cons_zero]; rfl) (by kernel_rfl) (by kernel_rfl) (by kernel_rfl) (by intro _ _ _ h; exact h) (Or.inl ⟨by rfl, fun w hS => by go_simp⟩) hH ?_
  simp only [Act.put, List.setIfInBounds_toArray, List.set_cons_zero, List.set_cons_succ]
  refine wpAnyH_take (i := 10) (v := .pointer (some ⟨b, o + 2, none⟩)) (by simp only [List.getElem?_toArray, List.getElem?_cons_succ, List.getElem?_cons_zero]; rfl) (by kernel_rfl) (by kernel_rfl) (by kernel_rfl) (by intro _ _ _ h; exact h) (Or.inl ⟨by rfl, fun w hS => by go_simp⟩) hH ?_
  simp only [Act.put, List.setIfInBounds_toArray, List.set_cons_zero, List.set_cons_succ]
  refine wpAnyH_take (i := 11) (v := .agg #[.pointer (some ⟨b, o + 2, none⟩), .int .i64 1, .int .i64 0, .int .i64 2]) (by simp only [List.getElem?_toArray, List.getElem?_cons_succ, List.getElem?_cons_zero]; rfl) (by kernel_rfl) (by kernel_rfl) (by kernel_rfl) (by intro _ _ _ h; exact h) (Or.inl ⟨by rfl, fun w hS => by go_simp⟩) hH ?_
  simp only [Act.put, List.setIfInBounds_toArray, List.set_cons_zero, List.set_cons_succ]
  refine wpAnyH_take (i := 12) (v := .pointer (some ⟨b, o, none⟩)) (by simp only [List.getElem?_toArray, List.getElem?_cons_succ, List.getElem?_cons_zero]; rfl) (by kernel_rfl) (by kernel_rfl) (by kernel_rfl) (by intro _ _ _ h; exact h) (Or.inl ⟨by rfl, fun w hS => by go_simp⟩) hH ?_
  simp only [Act.put, List.setIfInBounds_toArray, List.set_cons_zero, List.set_cons_succ]
  refine wpAnyH_take (i := 13) (v := .pointer (some ⟨b, o, none⟩)) (by simp only [List.getElem?_toArray, List.getElem?_cons_succ, List.getElem?_cons_zero]; rfl) (by kernel_rfl) (by kernel_rfl) (by kernel_rfl) (by intro _ _ _ h; exact h) (Or.inl ⟨by rfl, fun w hS => by go_simp⟩) hH ?_
  simp only [Act.put, List.setIfInBounds_toArray, List.set_cons_zero, List.set_cons_succ]
  refine wpAnyH_take (i := 14) (v := .pointer (some ⟨b, o + 3, none⟩)) (by simp only [List.getElem?_toArray, List.getElem?_cons_succ, List.getElem?_cons_zero]; rfl) (by kernel_rfl) (by kernel_rfl) (by kernel_rfl) (by intro _ _ _ h; exact h) (Or.inl ⟨by rfl, fun w hS => by go_simp⟩) hH ?_
  simp only [Act.put, List.setIfInBounds_toArray, List.set_cons_zero, List.set_cons_succ]
  refine wpAnyH_take (i := 15) (v := .agg #[.pointer (some ⟨b, o + 3, none⟩), .int .i64 4, .int .i64 0, .int .i64 9999999]) (by simp only [List.getElem?_toArray, List.getElem?_cons_succ, List.getElem?_cons_zero]; rfl) (by kernel_rfl) (by kernel_rfl) (by kernel_rfl) (by intro _ _ _ h; exact h) (Or.inl ⟨by rfl, fun w hS => by go_simp⟩) hH ?_
  simp only [Act.put, List.setIfInBounds_toArray, List.set_cons_zero, List.set_cons_succ]
  refine wpAnyH_ready (rs := [3]) (by kernel_rfl) (by simp) ?_
  refine AllReadyH.cons (by simp only [List.getElem?_toArray, List.getElem?_cons_succ, List.getElem?_cons_zero]; rfl) (fun K hK => ?_) AllReadyH.nil
  go_simp
  refine (nodn b o _).mono ?_
  rintro e x3 ⟨rfl, hM⟩
  have SB := hid hH.size
  refine hK.out _ _ (hH.trans (hM.mono hH.size)) (fun hH => ?_)
  clear hK K
  clear hM SB
  refine wpAnyH_ready (rs := [16]) (by kernel_rfl) (by simp) ?_
  refine AllReadyH.cons (by simp only [List.getElem?_toArray, List.getElem?_cons_succ, List.getElem?_cons_zero]; rfl) (fun K hK => ?_) AllReadyH.nil
  go_simp
  have hM := below_alloc1 x3 (.cells #[.pointer (some ⟨b, o, none⟩), .int .i64 1, .int .i64 0, .int .i64 3, .pointer (some ⟨b, o + 1, none⟩), .int .i64 4, .int .i64 0, .int .i64 1000000, .pointer (some ⟨b, o + 2, none⟩), .int .i64 1, .int .i64 0, .int .i64 2, .pointer (some ⟨b, o + 3, none⟩), .int .i64 4, .int .i64 0, .int .i64 9999999] 174)
  have VN := hid (heap_alloc_new x3 (.cells #[.pointer (some ⟨b, o, none⟩), .int .i64 1, .int .i64 0, .int .i64 3, .pointer (some ⟨b, o + 1, none⟩), .int .i64 4, .int .i64 0, .int .i64 1000000, .pointer (some ⟨b, o + 2, none⟩), .int .i64 1, .int .i64 0, .int .i64 2, .pointer (some ⟨b, o + 3, none⟩), .int .i64 4, .int .i64 0, .int .i64 9999999] 174))
  refine hK.out _ _ (hH.alloc hH.size _) (fun hH => ?_)
  clear hK K hM
  generalize x3.alloc (.cells #[.pointer (some ⟨b, o, none⟩), .int .i64 1, .int .i64 0, .int .i64 3, .pointer (some ⟨b, o + 1, none⟩), .int .i64 4, .int .i64 0, .int .i64 1000000, .pointer (some ⟨b, o + 2, none⟩), .int .i64 1, .int .i64 0, .int .i64 2, .pointer (some ⟨b, o + 3, none⟩), .int .i64 4, .int .i64 0, .int .i64 9999999] 174) = x16 at *
  refine wpAnyH_take (i := 17) (v := .slice (some ⟨x3.heap.size, 0, none⟩) 4 4) (by simp only [List.getElem?_toArray, List.getElem?_cons_succ, List.getElem?_cons_zero]; rfl) (by kernel_rfl) (by kernel_rfl) (by kernel_rfl) (by intro _ _ _ h; exact h) (Or.inl ⟨by rfl, fun w hS => by go_simp⟩) hH ?_
  simp only [Act.put, List.setIfInBounds_toArray, List.set_cons_zero, List.set_cons_succ]
  refine wpAnyH_done (by kernel_rfl) ?_ _
  have hB := hH
  clear hH
  have R := hid (show RdN _ _ [⟨b, o, 1, 0, 3⟩, ⟨b, o + 1, 4, 0, 1000000⟩, ⟨b, o + 2, 1, 0, 2⟩, ⟨b, o + 3, 4, 0, 9999999⟩] from rdN4 VN.out)
  have BB := hid hB
  clear hB VN
  go_wp2
  go_ret
  exact ⟨_, rfl, R.out, BB.out⟩
end Go.Proofs.Ytalaolfcdaaaoaa.W
