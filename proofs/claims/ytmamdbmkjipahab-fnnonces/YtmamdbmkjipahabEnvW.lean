/-
  Nonces and heads: what the model's NonceOf and HeadOf answer.
-/
import Derived.Test.YtmamdbmkjipahabL5hW
import Derived.Test.YtmamdbmkjipahabL1pWalks
import Derived.Test.YtmamdbmkjipahabAppM
namespace Go.Proofs.Ytmamdbmkjipahab.W
open Go.ChangeShapes Go.WideShapes Go.ChangeAt Go.RowKit
open Go.Proofs.Ytmamdbmkjipahab.M

set_option maxRecDepth 100000 in
theorem l5nonce (s c : Nat) (w : World) (hs : s ≤ 15) (hc : c ≤ 1000000000) :
    Calls Try.prog 107 #[.int .i64 (s : Int), .int .i64 (c : Int)] w fun e w' => ∃ v, e = .returned v ∧ Own w' w.heap.size v (nonceL s c) ∧ Below w.heap.size w w' := by
  have P1 := hid (fun w => l1pack s 4 w (by omega) (by omega) (by omega))
  have P2 := hid (fun w => l1pack c 8 w (by omega) (by omega) (by omega))
  go_enter Try.func107, Try.ntmps107
  go_wp2_with fail
  refine (P1.out _).mono ?_
  rintro e w1 ⟨rfl, hO, hB⟩
  have O1 := hid hO
  have B1 := hid hB
  clear hO hB
  go_wp2_with fail
  refine (P2.out _).mono ?_
  rintro e w2 ⟨rfl, hO, hB⟩
  replace O1 := hid (O1.out.below hB)
  replace B1 := hid (B1.out.trans (hB.mono B1.out.size))
  have R2 := hid hO.rd
  clear hO hB
  go_wp2_with (at_builtin; refine list_app rfl _ _ rfl _ _ (packL s 4) (packL c 8) w.heap.size rfl rfl O1.out R2.out (by rw [packL_len, packL_len]; omega) B1.out.size ?_; intro v3 w3 O G)
  have B3 := hid (B1.out.grown G B1.out.size (O1.out.row (Nat.le_refl _)))
  replace O := hid O
  clear G
  go_wp2
  go_ret
  exact ⟨_, rfl, O.out, B3.out⟩
theorem wrap_s (k : Nat) (h : k ≤ 255) : IntKind.u8.wrap (k : Int) = (k : Int) := by rw [IntKind.wrap_u8']; omega
theorem own_lit3 (w : World) (a b c : Nat) : Own (w.alloc (.cells #[.int .u8 (a : Int), .int .u8 (b : Int), .int .u8 (c : Int)] 5)) w.heap.size (.slice (some ⟨w.heap.size, 0, none⟩) 3 3) [a, b, c] :=
  World.ownsRow_lit w #[.int .u8 (a : Int), .int .u8 (b : Int), .int .u8 (c : Int)] 3 (Nat.le_refl _) (by unfold maxLen; omega) rfl
set_option maxRecDepth 100000 in
theorem l5hoff (k s c g o : Nat) (w : World) (c0 : w.cell? ⟨g, o, none⟩ = some (.int .i64 (k : Int))) (c1 : w.cell? ⟨g, o + 1, none⟩ = some (.int .i64 (s : Int))) (c2 : w.cell? ⟨g, o + 2, none⟩ = some (.int .i64 (c : Int))) (hk : k ≤ 255) (hs : s ≤ 15) (hc : c ≤ 1000000000) :
    Calls Try.prog 108 #[.pointer (some ⟨g, o, none⟩)] w fun e w' => ∃ v, e = .returned v ∧ Own w' w.heap.size v (headL k s c) ∧ Below w.heap.size w w' := by
  have P2 := hid (fun w => l1pack c 8 w (by omega) (by omega) (by omega))
  go_enter Try.func108, Try.ntmps108
  go_wp2_with fail
  refine wp_region_held_drew (S := fun w' => Below w.heap.size w w') (by kernel_rfl) (Below.refl _ _).drew (fun hH => ?_)
  generalize w.drew = x at hH ⊢
  refine wpAnyH_take (i := 0) (v := .pointer (some ⟨g, o, none⟩)) (by simp only [List.getElem?_toArray, List.getElem?_cons_zero]; rfl) (by kernel_rfl) (by kernel_rfl) (by kernel_rfl) (by intro _ _ _ h; exact h) (Or.inl ⟨by rfl, fun w hS => by go_simp⟩) hH ?_
  simp only [Act.put, List.setIfInBounds_toArray, List.set_cons_zero, List.set_cons_succ]
  refine wpAnyH_take (i := 1) (v := .pointer (some ⟨g, o, none⟩)) (by simp only [List.getElem?_toArray, List.getElem?_cons_succ, List.getElem?_cons_zero]; rfl) (by kernel_rfl) (by kernel_rfl) (by kernel_rfl) (by intro _ _ _ h; exact h) (Or.inl ⟨by rfl, fun w hS => by go_simp⟩) hH ?_
  simp only [Act.put, List.setIfInBounds_toArray, List.set_cons_zero, List.set_cons_succ]
  refine wpAnyH_take (i := 2) (v := .pointer (some ⟨g, o, none⟩)) (by simp only [List.getElem?_toArray, List.getElem?_cons_succ, List.getElem?_cons_zero]; rfl) (by kernel_rfl) (by kernel_rfl) (by kernel_rfl) (by intro _ _ _ h; exact h) (Or.inl ⟨by rfl, fun w hS => by go_simp⟩) hH ?_
  simp only [Act.put, List.setIfInBounds_toArray, List.set_cons_zero, List.set_cons_succ]
  refine wpAnyH_take (i := 3) (v := .int .i64 (k : Int)) (by simp only [List.getElem?_toArray, List.getElem?_cons_succ, List.getElem?_cons_zero]; rfl) (by kernel_rfl) (by kernel_rfl) (by kernel_rfl) (by intro _ _ _ h; exact h) (Or.inl ⟨by rfl, fun w hS => by (have y0 := cell_kept hS c0; go_simp)⟩) hH ?_
  simp only [Act.put, List.setIfInBounds_toArray, List.set_cons_zero, List.set_cons_succ]
  refine wpAnyH_take (i := 4) (v := .int .u8 (k : Int)) (by simp only [List.getElem?_toArray, List.getElem?_cons_succ, List.getElem?_cons_zero]; rfl) (by kernel_rfl) (by kernel_rfl) (by kernel_rfl) (by intro _ _ _ h; exact h) (Or.inl ⟨by rfl, fun w hS => by (have y := wrap_s k (by omega); go_simp)⟩) hH ?_
  simp only [Act.put, List.setIfInBounds_toArray, List.set_cons_zero, List.set_cons_succ]
  refine wpAnyH_take (i := 5) (v := .pointer (some ⟨g, o, none⟩)) (by simp only [List.getElem?_toArray, List.getElem?_cons_succ, List.getElem?_cons_zero]; rfl) (by kernel_rfl) (by kernel_rfl) (by kernel_rfl) (by intro _ _ _ h; exact h) (Or.inl ⟨by rfl, fun w hS => by go_simp⟩) hH ?_
  simp only [Act.put, List.setIfInBounds_toArray, List.set_cons_zero, List.set_cons_succ]
  refine wpAnyH_take (i := 6) (v := .pointer (some ⟨g, o, none⟩)) (by simp only [List.getElem?_toArray, List.getElem?_cons_succ, List.getElem?_cons_zero]; rfl) (by kernel_rfl) (by kernel_rfl) (by kernel_rfl) (by intro _ _ _ h; exact h) (Or.inl ⟨by rfl, fun w hS => by go_simp⟩) hH ?_
  simp only [Act.put, List.setIfInBounds_toArray, List.set_cons_zero, List.set_cons_succ]
  refine wpAnyH_take (i := 7) (v := .pointer (some ⟨g, o + 1, none⟩)) (by simp only [List.getElem?_toArray, List.getElem?_cons_succ, List.getElem?_cons_zero]; rfl) (by kernel_rfl) (by kernel_rfl) (by kernel_rfl) (by intro _ _ _ h; exact h) (Or.inl ⟨by rfl, fun w hS => by go_simp⟩) hH ?_
  simp only [Act.put, List.setIfInBounds_toArray, List.set_cons_zero, List.set_cons_succ]
  refine wpAnyH_take (i := 8) (v := .int .i64 (s : Int)) (by simp only [List.getElem?_toArray, List.getElem?_cons_succ, List.getElem?_cons_zero]; rfl) (by kernel_rfl) (by kernel_rfl) (by kernel_rfl) (by intro _ _ _ h; exact h) (Or.inl ⟨by rfl, fun w hS => by (have y0 := cell_kept hS c1; go_simp)⟩) hH ?_
  simp only [Act.put, List.setIfInBounds_toArray, List.set_cons_zero, List.set_cons_succ]
  refine wpAnyH_take (i := 9) (v := .int .u8 (s : Int)) (by simp only [List.getElem?_toArray, List.getElem?_cons_succ, List.getElem?_cons_zero]; rfl) (by kernel_rfl) (by kernel_rfl) (by kernel_rfl) (by intro _ _ _ h; exact h) (Or.inl ⟨by rfl, fun w hS => by (have y := wrap_s s (by omega); go_simp)⟩) hH ?_
  simp only [Act.put, List.setIfInBounds_toArray, List.set_cons_zero, List.set_cons_succ]
  refine wpAnyH_take (i := 11) (v := .pointer (some ⟨g, o, none⟩)) (by simp only [List.getElem?_toArray, List.getElem?_cons_succ, List.getElem?_cons_zero]; rfl) (by kernel_rfl) (by kernel_rfl) (by kernel_rfl) (by intro _ _ _ h; exact h) (Or.inl ⟨by rfl, fun w hS => by go_simp⟩) hH ?_
  simp only [Act.put, List.setIfInBounds_toArray, List.set_cons_zero, List.set_cons_succ]
  refine wpAnyH_take (i := 12) (v := .pointer (some ⟨g, o, none⟩)) (by simp only [List.getElem?_toArray, List.getElem?_cons_succ, List.getElem?_cons_zero]; rfl) (by kernel_rfl) (by kernel_rfl) (by kernel_rfl) (by intro _ _ _ h; exact h) (Or.inl ⟨by rfl, fun w hS => by go_simp⟩) hH ?_
  simp only [Act.put, List.setIfInBounds_toArray, List.set_cons_zero, List.set_cons_succ]
  refine wpAnyH_take (i := 13) (v := .pointer (some ⟨g, o + 2, none⟩)) (by simp only [List.getElem?_toArray, List.getElem?_cons_succ, List.getElem?_cons_zero]; rfl) (by kernel_rfl) (by kernel_rfl) (by kernel_rfl) (by intro _ _ _ h; exact h) (Or.inl ⟨by rfl, fun w hS => by go_simp⟩) hH ?_
  simp only [Act.put, List.setIfInBounds_toArray, List.set_cons_zero, List.set_cons_succ]
  refine wpAnyH_take (i := 14) (v := .int .i64 (c : Int)) (by simp only [List.getElem?_toArray, List.getElem?_cons_succ, List.getElem?_cons_zero]; rfl) (by kernel_rfl) (by kernel_rfl) (by kernel_rfl) (by intro _ _ _ h; exact h) (Or.inl ⟨by rfl, fun w hS => by (have y0 := cell_kept hS c2; go_simp)⟩) hH ?_
  simp only [Act.put, List.setIfInBounds_toArray, List.set_cons_zero, List.set_cons_succ]
  refine wpAnyH_ready (rs := [10, 15]) (by kernel_rfl) (by simp) ?_
  refine AllReadyH.cons (by simp only [List.getElem?_toArray, List.getElem?_cons_succ, List.getElem?_cons_zero]; rfl) (fun K hK => ?_) ?_
  · go_simp
    have hM := below_alloc1 x (.cells #[.int .u8 1, .int .u8 (k : Int), .int .u8 (s : Int)] 5)
    have O3 := hid ((own_lit3 x 1 k s).mono (base' := w.heap.size) hH.size)
    refine hK.out _ _ (hH.alloc hH.size _) (fun hH => ?_)
    clear hK K hM
    generalize x.alloc (.cells #[.int .u8 1, .int .u8 (k : Int), .int .u8 (s : Int)] 5) = x10 at *
    refine wpAnyH_ready (rs := [15]) (by kernel_rfl) (by simp) ?_
    refine AllReadyH.cons (by simp only [List.getElem?_toArray, List.getElem?_cons_succ, List.getElem?_cons_zero]; rfl) (fun K hK => ?_) AllReadyH.nil
    go_simp
    refine (P2.out _).mono ?_
    rintro e x15 ⟨rfl, hO, hM⟩
    have SB := hid hH.size
    refine hK.out _ _ (hH.trans (hM.mono hH.size)) (fun hH => ?_)
    clear hK K
    replace O3 := hid (O3.out.below hM)
    have R2 := hid (hO.rd)
    clear hM SB
    refine wpAnyH_ready (rs := [16]) (by kernel_rfl) (by simp) ?_
    refine AllReadyH.cons (by simp only [List.getElem?_toArray, List.getElem?_cons_succ, List.getElem?_cons_zero]; rfl) (fun K hK => ?_) AllReadyH.nil
    refine step_app (by rfl) _ _ (by rfl) _ _ ([1, k, s]) (packL c 8) w.heap.size (by rfl) (by rfl) O3.out R2.out (by rw [packL_len]; simp) hH.size ?_
    intro v16 x16 hO hG
    refine hK.out _ _ (hH.grown hG hH.size (O3.out.row (Nat.le_refl _))) (fun hH => ?_)
    clear hK K hG
    have O6 := hid hO
    clear hO
    refine wpAnyH_take (i := 17) (v := v16) (by simp only [List.getElem?_toArray, List.getElem?_cons_succ, List.getElem?_cons_zero]; rfl) (by kernel_rfl) (by kernel_rfl) (by kernel_rfl) (by intro _ _ _ h; exact h) (Or.inl ⟨by rfl, fun w hS => by go_simp⟩) hH ?_
    simp only [Act.put, List.setIfInBounds_toArray, List.set_cons_zero, List.set_cons_succ]
    refine wpAnyH_done (by kernel_rfl) ?_ _
    go_wp2
    go_ret
    exact ⟨_, rfl, O6.out, hH⟩
  refine AllReadyH.cons (by simp only [List.getElem?_toArray, List.getElem?_cons_succ, List.getElem?_cons_zero]; rfl) (fun K hK => ?_) ?_
  · go_simp
    refine (P2.out _).mono ?_
    rintro e x15 ⟨rfl, hO, hM⟩
    have SB := hid hH.size
    refine hK.out _ _ (hH.trans (hM.mono hH.size)) (fun hH => ?_)
    clear hK K
    have R2 := hid (hO.rd)
    clear hM SB
    refine wpAnyH_ready (rs := [10]) (by kernel_rfl) (by simp) ?_
    refine AllReadyH.cons (by simp only [List.getElem?_toArray, List.getElem?_cons_succ, List.getElem?_cons_zero]; rfl) (fun K hK => ?_) AllReadyH.nil
    go_simp
    have hM := below_alloc1 x15 (.cells #[.int .u8 1, .int .u8 (k : Int), .int .u8 (s : Int)] 5)
    replace R2 := hid (R2.out.below hM)
    have O3 := hid ((own_lit3 x15 1 k s).mono (base' := w.heap.size) hH.size)
    refine hK.out _ _ (hH.alloc hH.size _) (fun hH => ?_)
    clear hK K hM
    generalize x15.alloc (.cells #[.int .u8 1, .int .u8 (k : Int), .int .u8 (s : Int)] 5) = x10 at *
    refine wpAnyH_ready (rs := [16]) (by kernel_rfl) (by simp) ?_
    refine AllReadyH.cons (by simp only [List.getElem?_toArray, List.getElem?_cons_succ, List.getElem?_cons_zero]; rfl) (fun K hK => ?_) AllReadyH.nil
    refine step_app (by rfl) _ _ (by rfl) _ _ ([1, k, s]) (packL c 8) w.heap.size (by rfl) (by rfl) O3.out R2.out (by rw [packL_len]; simp) hH.size ?_
    intro v16 x16 hO hG
    refine hK.out _ _ (hH.grown hG hH.size (O3.out.row (Nat.le_refl _))) (fun hH => ?_)
    clear hK K hG
    have O6 := hid hO
    clear hO
    refine wpAnyH_take (i := 17) (v := v16) (by simp only [List.getElem?_toArray, List.getElem?_cons_succ, List.getElem?_cons_zero]; rfl) (by kernel_rfl) (by kernel_rfl) (by kernel_rfl) (by intro _ _ _ h; exact h) (Or.inl ⟨by rfl, fun w hS => by go_simp⟩) hH ?_
    simp only [Act.put, List.setIfInBounds_toArray, List.set_cons_zero, List.set_cons_succ]
    refine wpAnyH_done (by kernel_rfl) ?_ _
    go_wp2
    go_ret
    exact ⟨_, rfl, O6.out, hH⟩
  exact AllReadyH.nil
theorem l5headof (k s c : Nat) (t : Value) (g : Nat) (w : World) (hV : w.heap[g]? = some (.cells #[.int .i64 (k : Int), .int .i64 (s : Int), .int .i64 (c : Int), t] 68)) (hk : k ≤ 255) (hs : s ≤ 15) (hc : c ≤ 1000000000) :
    Calls Try.prog 108 #[.pointer (some ⟨g, 0, none⟩)] w fun e w' => ∃ v, e = .returned v ∧ Own w' w.heap.size v (headL k s c) ∧ Below w.heap.size w w' :=
  l5hoff k s c g 0 w (by rw [cell_of_row w g 0 _ _ _ hV]; rfl) (by rw [cell_of_row w g (0 + 1) _ _ _ hV]; rfl) (by rw [cell_of_row w g (0 + 2) _ _ _ hV]; rfl) hk hs hc
end Go.Proofs.Ytmamdbmkjipahab.W
