/-
  Nonces and heads: what the program's NonceOf and HeadOf answer.
  Group elements in memory.
  Blocks as arrays: their size.
  What a key and a nonce tell, in memory: the program's sealer.
  A word turned: what the program's method turned answers.
  A byte times the power 1: what the program's timesPowerOne answers.
  The constants of the rounds: what the program's RoundConstant answers.
  The words of a key: what the program's expandKey answers.
  The box of the byte whose inverse is known: what the program's boxOfInverse answers.
  The whole box: what the program's makeBox answers.
  What a key needs for all blocks: its box and its words, as one row of memory.
  What a key needs for all blocks: what the program's cipherOf answers.
  The bytes of a block by the box, in place: what the program's method subBytes does.
  The rows of a block turned, in place: what the program's method shiftRows does.
  The columns of a block mixed, in place: what the program's method mixColumns does.
  A round key added to a block, in place: what the program's method addKey does.
  A block by a key that is worked out: what the program's method encrypt answers.
-/
import Derived.Test.YtckgjghpfjinfakGEOpenLetter2
import Derived.Test.YtckgjghpfjinfakEnvW
import Derived.Test.YtckgjghpfjinfakBase
import Derived.Test.YtckgjghpfjinfakGrpF
import Derived.Test.YtckgjghpfjinfakGEOpenLetter1
import Derived.Test.YtckgjghpfjinfakSlX
import Derived.Test.YtckgjghpfjinfakCtrF
import Derived.Test.YtckgjghpfjinfakBox
import Derived.StillTailTactics
import Derived.Test.YtckgjghpfjinfakRows
import Derived.Test.YtckgjghpfjinfakBytes
import Derived.WalkKit
import Derived.ProofKit
import Derived.WalkSpells
import Derived.Test.YtckgjghpfjinfakWithin
import Derived.Test.YtckgjghpfjinfakKeysF
import Derived.Deep.CutRange
import Derived.Test.YtckgjghpfjinfakEncF

namespace Go.Proofs.Ytckgjghpfjinfak.W
open Go.ChangeShapes Go.WideShapes Go.ChangeAt Go.RowKit
open Go.Proofs.Ytckgjghpfjinfak.M

theorem fld1 (x : Int) (v : Value) (w : World) : (Instr.field 32 (.agg #[.int .i64 x, v]) 1).run Try.prog w = .ok v w := by kernel_rfl
set_option maxRecDepth 100000 in
theorem inonce (s c : Nat) (w : World) (hs : s ≤ 15) (hc : c ≤ 1000000000) :
    Calls Try.prog 41 #[.agg #[.int .i64 (s : Int), .int .i64 (c : Int)]] w fun e w' => ∃ v, e = .returned v ∧ Own w' w.heap.size v (nonceL s c) ∧ Below w.heap.size w w' := by
  have P1 := hid (fun w => ipw_ok s 4 w (by omega) (by omega) (by omega) (by omega))
  have P2 := hid (fun w => ipw_ok c 8 w (by omega) (by omega) (by omega) (by omega))
  go_enter Try.func41, Try.ntmps41
  go_wp2_with fail
  obtain ⟨c0, c1, -, -⟩ := var2_facts (heap_alloc_new w (.cells #[.int .i64 (s : Int), .int .i64 (c : Int)] 63))
  have BB := hid (below_alloc1 w (.cells #[.int .i64 (s : Int), .int .i64 (c : Int)] 63))
  generalize w.alloc (.cells #[.int .i64 (s : Int), .int .i64 (c : Int)] 63) = w0 at *
  obtain ⟨g, hg⟩ : ∃ g, g = w.heap.size := ⟨_, rfl⟩
  rw [← hg] at c0 c1 ⊢
  replace hg := hid hg
  refine wp_region_held_drew (S := fun w' => Below w0.heap.size w0 w') (by kernel_rfl) (Below.refl _ _).drew (fun hH => ?_)
  generalize w0.drew = x at hH ⊢
  refine wpAnyH_take (i := 0) (v := .pointer (some ⟨g, 0, none⟩)) (by simp only [List.getElem?_toArray, List.getElem?_cons_zero]; rfl) (by kernel_rfl) (by kernel_rfl) (by kernel_rfl) (by intro _ _ _ h; exact h) (Or.inl ⟨by rfl, fun w hS => by go_simp⟩) hH ?_
  simp only [Act.put, List.setIfInBounds_toArray, List.set_cons_zero, List.set_cons_succ]
  refine wpAnyH_take (i := 1) (v := .int .i64 (s : Int)) (by simp only [List.getElem?_toArray, List.getElem?_cons_succ, List.getElem?_cons_zero]; rfl) (by kernel_rfl) (by kernel_rfl) (by kernel_rfl) (by intro _ _ _ h; exact h) (Or.inl ⟨by rfl, fun w hS => by (have y0 := cell_kept hS c0; go_simp)⟩) hH ?_
  simp only [Act.put, List.setIfInBounds_toArray, List.set_cons_zero, List.set_cons_succ]
  refine wpAnyH_take (i := 4) (v := .pointer (some ⟨g, 1, none⟩)) (by simp only [List.getElem?_toArray, List.getElem?_cons_succ, List.getElem?_cons_zero]; rfl) (by kernel_rfl) (by kernel_rfl) (by kernel_rfl) (by intro _ _ _ h; exact h) (Or.inl ⟨by rfl, fun w hS => by go_simp⟩) hH ?_
  simp only [Act.put, List.setIfInBounds_toArray, List.set_cons_zero, List.set_cons_succ]
  refine wpAnyH_take (i := 5) (v := .int .i64 (c : Int)) (by simp only [List.getElem?_toArray, List.getElem?_cons_succ, List.getElem?_cons_zero]; rfl) (by kernel_rfl) (by kernel_rfl) (by kernel_rfl) (by intro _ _ _ h; exact h) (Or.inl ⟨by rfl, fun w hS => by (have y0 := cell_kept hS c1; go_simp)⟩) hH ?_
  simp only [Act.put, List.setIfInBounds_toArray, List.set_cons_zero, List.set_cons_succ]
  refine wpAnyH_ready (rs := [2]) (by kernel_rfl) (by simp) ?_
  refine AllReadyH.cons (by simp only [List.getElem?_toArray, List.getElem?_cons_succ, List.getElem?_cons_zero]; rfl) (fun K hK => ?_) AllReadyH.nil
  go_simp
  refine (P1.out _).mono ?_
  rintro e x2 ⟨v2, rfl, hO, hM⟩
  obtain ⟨p2, k2, rfl, -, -, -⟩ := hO.rd.parts
  have SB := hid hH.size
  refine hK.out _ _ (hH.trans (hM.mono hH.size)) (fun hH => ?_)
  clear hK K
  have O1 := hid (hO.mono (base' := w0.heap.size) SB.out)
  clear hM SB
  refine wpAnyH_take (i := 3) (v := .slice p2 (packL s 4).length k2) (by simp only [List.getElem?_toArray, List.getElem?_cons_succ, List.getElem?_cons_zero]; rfl) (by kernel_rfl) (by kernel_rfl) (by kernel_rfl) (by intro _ _ _ h; exact h) (Or.inl ⟨by rfl, fun w hS => by (have hf1 := fld1; go_simp)⟩) hH ?_
  simp only [Act.put, List.setIfInBounds_toArray, List.set_cons_zero, List.set_cons_succ]
  refine wpAnyH_ready (rs := [6]) (by kernel_rfl) (by simp) ?_
  refine AllReadyH.cons (by simp only [List.getElem?_toArray, List.getElem?_cons_succ, List.getElem?_cons_zero]; rfl) (fun K hK => ?_) AllReadyH.nil
  go_simp
  refine (P2.out _).mono ?_
  rintro e x6 ⟨v6, rfl, hO, hM⟩
  obtain ⟨p6, k6, rfl, -, -, -⟩ := hO.rd.parts
  have SB := hid hH.size
  refine hK.out _ _ (hH.trans (hM.mono hH.size)) (fun hH => ?_)
  clear hK K
  replace O1 := hid (O1.out.below hM)
  have R2 := hid (hO.rd)
  clear hM SB
  refine wpAnyH_take (i := 7) (v := .slice p6 (packL c 8).length k6) (by simp only [List.getElem?_toArray, List.getElem?_cons_succ, List.getElem?_cons_zero]; rfl) (by kernel_rfl) (by kernel_rfl) (by kernel_rfl) (by intro _ _ _ h; exact h) (Or.inl ⟨by rfl, fun w hS => by (have hf1 := fld1; go_simp)⟩) hH ?_
  simp only [Act.put, List.setIfInBounds_toArray, List.set_cons_zero, List.set_cons_succ]
  refine wpAnyH_ready (rs := [8]) (by kernel_rfl) (by simp) ?_
  refine AllReadyH.cons (by simp only [List.getElem?_toArray, List.getElem?_cons_succ, List.getElem?_cons_zero]; rfl) (fun K hK => ?_) AllReadyH.nil
  refine step_app (by rfl) _ _ (by rfl) _ _ (packL s 4) (packL c 8) w0.heap.size (by rfl) (by rfl) O1.out R2.out (by rw [packL_len, packL_len]; omega) hH.size ?_
  intro v8 x8 hO hG
  refine hK.out _ _ (hH.grown hG hH.size (O1.out.row (Nat.le_refl _))) (fun hH => ?_)
  clear hK K hG
  have O6 := hid hO
  clear hO
  refine wpAnyH_take (i := 9) (v := v8) (by simp only [List.getElem?_toArray, List.getElem?_cons_succ, List.getElem?_cons_zero]; rfl) (by kernel_rfl) (by kernel_rfl) (by kernel_rfl) (by intro _ _ _ h; exact h) (Or.inl ⟨by rfl, fun w hS => by go_simp⟩) hH ?_
  simp only [Act.put, List.setIfInBounds_toArray, List.set_cons_zero, List.set_cons_succ]
  refine wpAnyH_done (by kernel_rfl) ?_ _
  go_wp2
  go_ret
  exact ⟨_, rfl, O6.out.mono BB.out.size, BB.out.trans (hH.mono BB.out.size)⟩
set_option maxRecDepth 100000 in
theorem ipacked (k s c : Nat) (w : World) (hk : k ≤ 255) (hs : s ≤ 15) (hc : c ≤ 1000000000) :
    Calls Try.prog 44 #[.agg #[.int .i64 (s : Int), .int .i64 (c : Int), .int .i64 (k : Int)]] w fun e w' => ∃ v, e = .returned v ∧ Own w' w.heap.size v (headL k s c) ∧ Below w.heap.size w w' := by
  have P2 := hid (fun w => ipw_ok c 8 w (by omega) (by omega) (by omega) (by omega))
  go_enter Try.func44, Try.ntmps44
  go_wp2_with fail
  have V := heap_alloc_new w (.cells #[.int .i64 (s : Int), .int .i64 (c : Int), .int .i64 (k : Int)] 65)
  have BB := hid (below_alloc1 w (.cells #[.int .i64 (s : Int), .int .i64 (c : Int), .int .i64 (k : Int)] 65))
  generalize w.alloc (.cells #[.int .i64 (s : Int), .int .i64 (c : Int), .int .i64 (k : Int)] 65) = w0 at *
  obtain ⟨g, hg⟩ : ∃ g, g = w.heap.size := ⟨_, rfl⟩
  rw [← hg] at V ⊢
  replace hg := hid hg
  have c0 : w0.cell? ⟨g, 0, none⟩ = some (.int .i64 (s : Int)) := by rw [cell_of_row w0 g 0 _ _ _ V]; rfl
  have c1 : w0.cell? ⟨g, 1, none⟩ = some (.int .i64 (c : Int)) := by rw [cell_of_row w0 g 1 _ _ _ V]; rfl
  have c2 : w0.cell? ⟨g, 2, none⟩ = some (.int .i64 (k : Int)) := by rw [cell_of_row w0 g 2 _ _ _ V]; rfl
  clear V
  refine wp_region_held_drew (S := fun w' => Below w0.heap.size w0 w') (by kernel_rfl) (Below.refl _ _).drew (fun hH => ?_)
  generalize w0.drew = x at hH ⊢
  refine wpAnyH_take (i := 0) (v := .pointer (some ⟨g, 2, none⟩)) (by simp only [List.getElem?_toArray, List.getElem?_cons_zero]; rfl) (by kernel_rfl) (by kernel_rfl) (by kernel_rfl) (by intro _ _ _ h; exact h) (Or.inl ⟨by rfl, fun w hS => by go_simp⟩) hH ?_
  simp only [Act.put, List.setIfInBounds_toArray, List.set_cons_zero, List.set_cons_succ]
  refine wpAnyH_take (i := 1) (v := .int .i64 (k : Int)) (by simp only [List.getElem?_toArray, List.getElem?_cons_succ, List.getElem?_cons_zero]; rfl) (by kernel_rfl) (by kernel_rfl) (by kernel_rfl) (by intro _ _ _ h; exact h) (Or.inl ⟨by rfl, fun w hS => by (have y0 := cell_kept hS c2; go_simp)⟩) hH ?_
  simp only [Act.put, List.setIfInBounds_toArray, List.set_cons_zero, List.set_cons_succ]
  refine wpAnyH_take (i := 2) (v := .int .u8 (k : Int)) (by simp only [List.getElem?_toArray, List.getElem?_cons_succ, List.getElem?_cons_zero]; rfl) (by kernel_rfl) (by kernel_rfl) (by kernel_rfl) (by intro _ _ _ h; exact h) (Or.inl ⟨by rfl, fun w hS => by (have y := wrap_s k (by omega); go_simp)⟩) hH ?_
  simp only [Act.put, List.setIfInBounds_toArray, List.set_cons_zero, List.set_cons_succ]
  refine wpAnyH_take (i := 3) (v := .pointer (some ⟨g, 0, none⟩)) (by simp only [List.getElem?_toArray, List.getElem?_cons_succ, List.getElem?_cons_zero]; rfl) (by kernel_rfl) (by kernel_rfl) (by kernel_rfl) (by intro _ _ _ h; exact h) (Or.inl ⟨by rfl, fun w hS => by go_simp⟩) hH ?_
  simp only [Act.put, List.setIfInBounds_toArray, List.set_cons_zero, List.set_cons_succ]
  refine wpAnyH_take (i := 4) (v := .pointer (some ⟨g, 0, none⟩)) (by simp only [List.getElem?_toArray, List.getElem?_cons_succ, List.getElem?_cons_zero]; rfl) (by kernel_rfl) (by kernel_rfl) (by kernel_rfl) (by intro _ _ _ h; exact h) (Or.inl ⟨by rfl, fun w hS => by go_simp⟩) hH ?_
  simp only [Act.put, List.setIfInBounds_toArray, List.set_cons_zero, List.set_cons_succ]
  refine wpAnyH_take (i := 5) (v := .int .i64 (s : Int)) (by simp only [List.getElem?_toArray, List.getElem?_cons_succ, List.getElem?_cons_zero]; rfl) (by kernel_rfl) (by kernel_rfl) (by kernel_rfl) (by intro _ _ _ h; exact h) (Or.inl ⟨by rfl, fun w hS => by (have y0 := cell_kept hS c0; go_simp)⟩) hH ?_
  simp only [Act.put, List.setIfInBounds_toArray, List.set_cons_zero, List.set_cons_succ]
  refine wpAnyH_take (i := 6) (v := .int .u8 (s : Int)) (by simp only [List.getElem?_toArray, List.getElem?_cons_succ, List.getElem?_cons_zero]; rfl) (by kernel_rfl) (by kernel_rfl) (by kernel_rfl) (by intro _ _ _ h; exact h) (Or.inl ⟨by rfl, fun w hS => by (have y := wrap_s s (by omega); go_simp)⟩) hH ?_
  simp only [Act.put, List.setIfInBounds_toArray, List.set_cons_zero, List.set_cons_succ]
  refine wpAnyH_take (i := 8) (v := .pointer (some ⟨g, 0, none⟩)) (by simp only [List.getElem?_toArray, List.getElem?_cons_succ, List.getElem?_cons_zero]; rfl) (by kernel_rfl) (by kernel_rfl) (by kernel_rfl) (by intro _ _ _ h; exact h) (Or.inl ⟨by rfl, fun w hS => by go_simp⟩) hH ?_
  simp only [Act.put, List.setIfInBounds_toArray, List.set_cons_zero, List.set_cons_succ]
  refine wpAnyH_take (i := 9) (v := .pointer (some ⟨g, 1, none⟩)) (by simp only [List.getElem?_toArray, List.getElem?_cons_succ, List.getElem?_cons_zero]; rfl) (by kernel_rfl) (by kernel_rfl) (by kernel_rfl) (by intro _ _ _ h; exact h) (Or.inl ⟨by rfl, fun w hS => by go_simp⟩) hH ?_
  simp only [Act.put, List.setIfInBounds_toArray, List.set_cons_zero, List.set_cons_succ]
  refine wpAnyH_take (i := 10) (v := .int .i64 (c : Int)) (by simp only [List.getElem?_toArray, List.getElem?_cons_succ, List.getElem?_cons_zero]; rfl) (by kernel_rfl) (by kernel_rfl) (by kernel_rfl) (by intro _ _ _ h; exact h) (Or.inl ⟨by rfl, fun w hS => by (have y0 := cell_kept hS c1; go_simp)⟩) hH ?_
  simp only [Act.put, List.setIfInBounds_toArray, List.set_cons_zero, List.set_cons_succ]
  refine wpAnyH_ready (rs := [7, 11]) (by kernel_rfl) (by simp) ?_
  refine AllReadyH.cons (by simp only [List.getElem?_toArray, List.getElem?_cons_succ, List.getElem?_cons_zero]; rfl) (fun K hK => ?_) ?_
  · go_simp
    have hM := below_alloc1 x (.cells #[.int .u8 1, .int .u8 (k : Int), .int .u8 (s : Int)] 5)
    have O3 := hid ((own_lit3 x 1 k s).mono (base' := w0.heap.size) hH.size)
    refine hK.out _ _ (hH.alloc hH.size _) (fun hH => ?_)
    clear hK K hM
    generalize x.alloc (.cells #[.int .u8 1, .int .u8 (k : Int), .int .u8 (s : Int)] 5) = x7 at *
    refine wpAnyH_ready (rs := [11]) (by kernel_rfl) (by simp) ?_
    refine AllReadyH.cons (by simp only [List.getElem?_toArray, List.getElem?_cons_succ, List.getElem?_cons_zero]; rfl) (fun K hK => ?_) AllReadyH.nil
    go_simp
    refine (P2.out _).mono ?_
    rintro e x11 ⟨v11, rfl, hO, hM⟩
    obtain ⟨p11, k11, rfl, -, -, -⟩ := hO.rd.parts
    have SB := hid hH.size
    refine hK.out _ _ (hH.trans (hM.mono hH.size)) (fun hH => ?_)
    clear hK K
    replace O3 := hid (O3.out.below hM)
    have R2 := hid (hO.rd)
    clear hM SB
    refine wpAnyH_take (i := 12) (v := .slice p11 (packL c 8).length k11) (by simp only [List.getElem?_toArray, List.getElem?_cons_succ, List.getElem?_cons_zero]; rfl) (by kernel_rfl) (by kernel_rfl) (by kernel_rfl) (by intro _ _ _ h; exact h) (Or.inl ⟨by rfl, fun w hS => by (have hf1 := fld1; go_simp)⟩) hH ?_
    simp only [Act.put, List.setIfInBounds_toArray, List.set_cons_zero, List.set_cons_succ]
    refine wpAnyH_ready (rs := [13]) (by kernel_rfl) (by simp) ?_
    refine AllReadyH.cons (by simp only [List.getElem?_toArray, List.getElem?_cons_succ, List.getElem?_cons_zero]; rfl) (fun K hK => ?_) AllReadyH.nil
    refine step_app (by rfl) _ _ (by rfl) _ _ ([1, k, s]) (packL c 8) w0.heap.size (by rfl) (by rfl) O3.out R2.out (by rw [packL_len]; simp) hH.size ?_
    intro v13 x13 hO hG
    refine hK.out _ _ (hH.grown hG hH.size (O3.out.row (Nat.le_refl _))) (fun hH => ?_)
    clear hK K hG
    have O6 := hid hO
    clear hO
    refine wpAnyH_take (i := 14) (v := v13) (by simp only [List.getElem?_toArray, List.getElem?_cons_succ, List.getElem?_cons_zero]; rfl) (by kernel_rfl) (by kernel_rfl) (by kernel_rfl) (by intro _ _ _ h; exact h) (Or.inl ⟨by rfl, fun w hS => by go_simp⟩) hH ?_
    simp only [Act.put, List.setIfInBounds_toArray, List.set_cons_zero, List.set_cons_succ]
    refine wpAnyH_done (by kernel_rfl) ?_ _
    go_wp2
    go_ret
    exact ⟨_, rfl, O6.out.mono BB.out.size, BB.out.trans (hH.mono BB.out.size)⟩
  refine AllReadyH.cons (by simp only [List.getElem?_toArray, List.getElem?_cons_succ, List.getElem?_cons_zero]; rfl) (fun K hK => ?_) ?_
  · go_simp
    refine (P2.out _).mono ?_
    rintro e x11 ⟨v11, rfl, hO, hM⟩
    obtain ⟨p11, k11, rfl, -, -, -⟩ := hO.rd.parts
    have SB := hid hH.size
    refine hK.out _ _ (hH.trans (hM.mono hH.size)) (fun hH => ?_)
    clear hK K
    have R2 := hid (hO.rd)
    clear hM SB
    refine wpAnyH_take (i := 12) (v := .slice p11 (packL c 8).length k11) (by simp only [List.getElem?_toArray, List.getElem?_cons_succ, List.getElem?_cons_zero]; rfl) (by kernel_rfl) (by kernel_rfl) (by kernel_rfl) (by intro _ _ _ h; exact h) (Or.inl ⟨by rfl, fun w hS => by (have hf1 := fld1; go_simp)⟩) hH ?_
    simp only [Act.put, List.setIfInBounds_toArray, List.set_cons_zero, List.set_cons_succ]
    refine wpAnyH_ready (rs := [7]) (by kernel_rfl) (by simp) ?_
    refine AllReadyH.cons (by simp only [List.getElem?_toArray, List.getElem?_cons_succ, List.getElem?_cons_zero]; rfl) (fun K hK => ?_) AllReadyH.nil
    go_simp
    have hM := below_alloc1 x11 (.cells #[.int .u8 1, .int .u8 (k : Int), .int .u8 (s : Int)] 5)
    replace R2 := hid (R2.out.below hM)
    have O3 := hid ((own_lit3 x11 1 k s).mono (base' := w0.heap.size) hH.size)
    refine hK.out _ _ (hH.alloc hH.size _) (fun hH => ?_)
    clear hK K hM
    generalize x11.alloc (.cells #[.int .u8 1, .int .u8 (k : Int), .int .u8 (s : Int)] 5) = x7 at *
    refine wpAnyH_ready (rs := [13]) (by kernel_rfl) (by simp) ?_
    refine AllReadyH.cons (by simp only [List.getElem?_toArray, List.getElem?_cons_succ, List.getElem?_cons_zero]; rfl) (fun K hK => ?_) AllReadyH.nil
    refine step_app (by rfl) _ _ (by rfl) _ _ ([1, k, s]) (packL c 8) w0.heap.size (by rfl) (by rfl) O3.out R2.out (by rw [packL_len]; simp) hH.size ?_
    intro v13 x13 hO hG
    refine hK.out _ _ (hH.grown hG hH.size (O3.out.row (Nat.le_refl _))) (fun hH => ?_)
    clear hK K hG
    have O6 := hid hO
    clear hO
    refine wpAnyH_take (i := 14) (v := v13) (by simp only [List.getElem?_toArray, List.getElem?_cons_succ, List.getElem?_cons_zero]; rfl) (by kernel_rfl) (by kernel_rfl) (by kernel_rfl) (by intro _ _ _ h; exact h) (Or.inl ⟨by rfl, fun w hS => by go_simp⟩) hH ?_
    simp only [Act.put, List.setIfInBounds_toArray, List.set_cons_zero, List.set_cons_succ]
    refine wpAnyH_done (by kernel_rfl) ?_ _
    go_wp2
    go_ret
    exact ⟨_, rfl, O6.out.mono BB.out.size, BB.out.trans (hH.mono BB.out.size)⟩
  exact AllReadyH.nil
end Go.Proofs.Ytckgjghpfjinfak.W

namespace Go.Proofs.Ytckgjghpfjinfak.W
open Go.ChangeShapes Go.WideShapes Go.ChangeAt Go.RowKit
open Go.Proofs.Ytckgjghpfjinfak.M

theorem below_alloc3 (w : World) (a b c : Obj) : Below w.heap.size w (((w.alloc a).alloc b).alloc c) := (below_alloc2 w a b).alloc (by simp; omega) _
/-- A group element's cells, and it as a value. -/
def ec (p : Nat × Nat) : Array Value := #[.int .u64 (p.1 : Int), .int .u64 (p.2 : Int)]
def ev (p : Nat × Nat) : Value := .agg (ec p)
theorem ec_size (p : Nat × Nat) : (Try.prog.info? 126).map (·.size) = some (ec p).size := by
  rw [show (ec p).size = 2 from rfl]; kernel_rfl
theorem ec_one (p : Nat × Nat) : (ec p).all (·.oneCell') = true := by
  rw [Array.all_eq_true_iff_forall_mem]
  intro v hv
  simp only [ec, List.mem_toArray, List.mem_cons, List.not_mem_nil, or_false] at hv
  rcases hv with rfl | rfl <;> rfl
/-- The block g is a group element. -/
def El (w : World) (g : Nat) (p : Nat × Nat) : Prop := w.heap[g]? = some (.cells (ec p) 126)
theorem El.below {w w' : World} {g : Nat} {p : Nat × Nat} (h : El w g p) (hb : Below w.heap.size w w') : El w' g p := var_below hb h
theorem El.row {w : World} {g : Nat} {p q : Nat × Nat} (h : El w g p) : El (w.setRow g (ec q)) g q := setRow_heap w g _ _ _ _ h
theorem El.far {w : World} {g g' : Nat} {p : Nat × Nat} (h : El w g p) (cs : Array Value) (hne : g ≠ g') : El (w.setRow g' cs) g p := by
  unfold El
  rw [setRow_other w g' g cs hne]
  exact h
theorem El.drew {w : World} {g : Nat} {p : Nat × Nat} (h : El w g p) : El w.drew g p := h

end Go.Proofs.Ytckgjghpfjinfak.W

namespace Go.Proofs.Ytckgjghpfjinfak.W
open Go.ChangeShapes Go.WideShapes Go.ChangeAt Go.RowKit
open Go.Proofs.Ytckgjghpfjinfak.M

theorem blk_size (l : List Nat) (hl : l.length = 16) : (Try.prog.info? 127).map (·.size) = some (arr l).size := by rw [arr_size, hl]; kernel_rfl

end Go.Proofs.Ytckgjghpfjinfak.W

namespace Go.Proofs.Ytckgjghpfjinfak.W
open Go.ChangeShapes Go.WideShapes Go.ChangeAt Go.RowKit
open Go.Proofs.Ytckgjghpfjinfak.M

/-- The cells of a sealer: its cipher, its group element, its first block. -/
def sc (gc : Nat) (h : Nat × Nat) (j : List Nat) : Array Value := #[.pointer (some ⟨gc, 0, none⟩), .int .u64 (h.1 : Int), .int .u64 (h.2 : Int)] ++ arr j
theorem sc_size (gc : Nat) (h : Nat × Nat) (j : List Nat) (hj : j.length = 16) : (sc gc h j).size = 19 := by rw [sc, Array.size_append, arr_size, hj]; rfl
theorem sc_info (gc : Nat) (h : Nat × Nat) (j : List Nat) (hj : j.length = 16) : (Try.prog.info? 129).map (·.size) = some (sc gc h j).size := by rw [sc_size gc h j hj]; kernel_rfl
theorem sc_one (gc : Nat) (h : Nat × Nat) (j : List Nat) : (sc gc h j).all (·.oneCell') = true := by
  rw [Array.all_eq_true_iff_forall_mem]
  intro v hv
  rcases Array.mem_append.1 hv with q | q
  · simp only [List.mem_toArray, List.mem_cons, List.not_mem_nil, or_false] at q
    rcases q with rfl | rfl | rfl <;> rfl
  · exact (Array.all_eq_true_iff_forall_mem.1 (arr_one j)) v q
/-- The block g is a sealer. -/
def Sv (w : World) (g gc : Nat) (h : Nat × Nat) (j : List Nat) : Prop := w.heap[g]? = some (.cells (sc gc h j) 129)
theorem Sv.below {w w' : World} {g gc : Nat} {h : Nat × Nat} {j : List Nat} (q : Sv w g gc h j) (hb : Below w.heap.size w w') : Sv w' g gc h j := var_below hb q
theorem sc_low (gc : Nat) (h : Nat × Nat) (j : List Nat) (i : Nat) (hi : i < 3) : (sc gc h j)[i]? = #[.pointer (some ⟨gc, 0, none⟩), .int .u64 (h.1 : Int), .int .u64 (h.2 : Int)][i]? := by
  unfold sc
  rw [Array.getElem?_append_left (by simpa using hi)]
theorem sc_high (gc : Nat) (h : Nat × Nat) (j : List Nat) (i : Nat) : (sc gc h j)[3 + i]? = (arr j)[i]? := by
  unfold sc
  rw [Array.getElem?_append_right (by simp)]
  simp
theorem Sv.c0 {w : World} {g gc : Nat} {h : Nat × Nat} {j : List Nat} (q : Sv w g gc h j) : w.cell? ⟨g, 0, none⟩ = some (.pointer (some ⟨gc, 0, none⟩)) := by rw [cell_of_row w g 0 _ _ _ q, sc_low _ _ _ _ (by omega)]; rfl
theorem Sv.c1 {w : World} {g gc : Nat} {h : Nat × Nat} {j : List Nat} (q : Sv w g gc h j) : w.cell? ⟨g, 1, none⟩ = some (.int .u64 (h.1 : Int)) := by rw [cell_of_row w g 1 _ _ _ q, sc_low _ _ _ _ (by omega)]; rfl
theorem Sv.c2 {w : World} {g gc : Nat} {h : Nat × Nat} {j : List Nat} (q : Sv w g gc h j) : w.cell? ⟨g, 2, none⟩ = some (.int .u64 (h.2 : Int)) := by rw [cell_of_row w g 2 _ _ _ q, sc_low _ _ _ _ (by omega)]; rfl
theorem Sv.range {w : World} {g gc : Nat} {h : Nat × Nat} {j : List Nat} (q : Sv w g gc h j) : w.rangeAt g 3 (j.map bv) := fun i v hv => by
  rw [cell_of_row w g (3 + i) _ _ _ q, sc_high]
  simp [arr, hv]
theorem sc_built (gc : Nat) (h : Nat × Nat) (j : List Nat) (hj : j.length = 16) : Try.prog.built 129 [(0, .pointer (some ⟨gc, 0, none⟩)), (1, .agg (ec h)), (2, .agg (arr j))] = some (sc gc h j) := by
  obtain ⟨a0, a1, a2, a3, a4, a5, a6, a7, a8, a9, b0, b1, b2, b3, b4, b5, rfl⟩ := list16 j hj
  kernel_rfl
theorem sc_eq {x : List (Nat × Value)} (gc : Nat) (h : Nat × Nat) (j : List Nat) (hj : j.length = 16) (hx : x = [(0, .pointer (some ⟨gc, 0, none⟩)), (1, .agg (ec h)), (2, .agg (arr j))]) : Try.prog.built 129 x = some (sc gc h j) := by rw [hx]; exact sc_built gc h j hj
theorem j_built : Try.prog.built 127 [(15, .int .u8 1)] = some (arr (zs 15 ++ [1])) := by kernel_rfl
theorem step_build {ops : Array Oper} {o : Oper} {a : Act} {w : World} {K : Act → World → Prop} {Q : Exit → Act → World → Prop} {E : Prop} (hgd : o.guard = none) (t : TypeId) (parts : Array (Nat × Operand)) (ho : o.op = .build t parts) (cells : Array Value)
    (hb : Try.prog.built t (parts.map fun (i, x) => (i, a.eval x)).toList = some cells) (h : K (a.put o.dst (.agg cells)) w) : if Region.wanted o (yielded ops a.tmps) = true then Oper.wp Try.prog o a w K Q else E := by
  have hw : Region.wanted o (yielded ops a.tmps) = true := by simp [Region.wanted, hgd]
  rw [if_pos hw]
  refine wp_build t parts ho (by rw [hb]; rfl) ?_
  rw [hb]
  exact h
theorem cut_blk (g : Nat) (w : World) : (Instr.sliceAt 127 (.pointer (some ⟨g, 0, none⟩)) none none none).run Try.prog w = .ok (.slice (some ⟨g, 0, none⟩) 16 16) w := by
  have hs : ∀ w : World, (sizeOf (Try.prog.elem 127)).run Try.prog w = .ok 1 w := fun _ => by kernel_rfl
  have hl : Try.prog.arrayLen 127 = 16 := by kernel_rfl
  rw [run_sliceAt_array_all (P := Try.prog) w 127 _ (by kernel_rfl), hs]
  simp [Result.andThen, slicedAt, Addr.add_lit, hl]
theorem cut_non (g : Nat) (w : World) : (Instr.sliceAt 131 (.pointer (some ⟨g, 0, none⟩)) none none none).run Try.prog w = .ok (.slice (some ⟨g, 0, none⟩) 12 12) w := by
  have hs : ∀ w : World, (sizeOf (Try.prog.elem 131)).run Try.prog w = .ok 1 w := fun _ => by kernel_rfl
  have hl : Try.prog.arrayLen 131 = 12 := by kernel_rfl
  rw [run_sliceAt_array_all (P := Try.prog) w 131 _ (by kernel_rfl), hs]
  simp [Result.andThen, slicedAt, Addr.add_lit, hl]
end Go.Proofs.Ytckgjghpfjinfak.W

namespace Go.Proofs.Ytckgjghpfjinfak.W
open Go.ChangeShapes Go.WideShapes Go.ChangeAt Go.RowKit
open Go.Proofs.Ytckgjghpfjinfak.M

set_option maxHeartbeats 2000000 in
set_option maxRecDepth 100000 in
theorem turnd (a0 a1 a2 a3 c gx : Nat) (w : World) (x0 : a0 < 256) (x1 : a1 < 256) (x2 : a2 < 256) (x3 : a3 < 256) (xc : c < 256) (hX : ∀ a, a < 256 → w.cell? ⟨gx, a, none⟩ = some (.int .u8 (sbx a : Nat))) :
    Calls Try.prog 113 #[.agg (arr [a0, a1, a2, a3]), .pointer (some ⟨gx, 0, none⟩), .int .u8 (c : Int)] w fun e w' => e = .returned (.agg (arr [sbx a1 ^^^ c, sbx a2, sbx a3, sbx a0])) ∧ Below w.heap.size w w' := by
  have T := (Ar.new w 149 [a0, a1, a2, a3]).alloc (.cells #[.int .u8 0, .int .u8 0, .int .u8 0, .int .u8 0] 149)
  have R : Ar ((w.alloc (.cells (arr [a0, a1, a2, a3]) 149)).alloc (.cells #[.int .u8 0, .int .u8 0, .int .u8 0, .int .u8 0] 149)) (w.heap.size + 1) 149 [0, 0, 0, 0] := heap_alloc2_new w _ _
  have B := below_alloc2 w (.cells (arr [a0, a1, a2, a3]) 149) (.cells #[.int .u8 0, .int .u8 0, .int .u8 0, .int .u8 0] 149)
  have X0 := cell_kept B (hX a0 x0)
  have X1 := cell_kept B (hX a1 x1)
  have X2 := cell_kept B (hX a2 x2)
  have X3 := cell_kept B (hX a3 x3)
  have c0 := T.cell 0 (by simp)
  have c1 := T.cell 1 (by simp)
  have c2 := T.cell 2 (by simp)
  have c3 := T.cell 3 (by simp)
  rw [show gt [a0, a1, a2, a3] 0 = a0 from rfl] at c0
  rw [show gt [a0, a1, a2, a3] 1 = a1 from rfl] at c1
  rw [show gt [a0, a1, a2, a3] 2 = a2 from rfl] at c2
  rw [show gt [a0, a1, a2, a3] 3 = a3 from rfl] at c3
  have E := xor8 _ _ (sbx_lt a1 x1) xc
  have Z4 := hid (show (Try.prog.info? 149).map (·.size) = some (arr [sbx a1 ^^^ c, sbx a2, sbx a3, sbx a0]).size by rw [arr_size]; kernel_rfl)
  go_enter Try.func113, Try.ntmps113
  go_wp2_with fail
  generalize (w.alloc (.cells (arr [a0, a1, a2, a3]) 149)).alloc (.cells #[.int .u8 0, .int .u8 0, .int .u8 0, .int .u8 0] 149) = W at *
  replace R := hid R
  replace B := hid B
  clear T hX
  have p0 : (0 : Int) ≤ (a0 : Int) := by omega
  have q0 : (a0 : Int) < 256 := by omega
  have p1 : (0 : Int) ≤ (a1 : Int) := by omega
  have q1 : (a1 : Int) < 256 := by omega
  have p2 : (0 : Int) ≤ (a2 : Int) := by omega
  have q2 : (a2 : Int) < 256 := by omega
  have p3 : (0 : Int) ≤ (a3 : Int) := by omega
  have q3 : (a3 : Int) < 256 := by omega
  refine wp_region_still_tail 27 (by kernel_rfl) (by kernel_rfl) ?_
  change wpStill _ _ (World.drew _) (fun a' => wpList _ _ _ _ a' (World.drew _)) _ _
  simp only [List.take_succ_cons, List.take_zero, List.drop_succ_cons, List.drop_zero]
  repeat still_step
  refine wpStill_nil ?_
  have S := hid (R.out.drew.row (l' := [sbx a1 ^^^ c, sbx a2, sbx a3, sbx a0]))
  have SB := hid (below_row B.out.drew (g := w.heap.size + 1) (by omega) (arr [sbx a1 ^^^ c, sbx a2, sbx a3, sbx a0]))
  refine wpList_store_row rfl 149 _ _ rfl (w.heap.size + 1) (arr [sbx a1 ^^^ c, sbx a2, sbx a3, sbx a0]) rfl rfl 149 _ R.out.drew Z4.out (by rw [arr_size, arr_size]; rfl) (arr_one _) ?_
  go_wp2
  exact bodyPost_ret (v := .agg (arr [sbx a1 ^^^ c, sbx a2, sbx a3, sbx a0])) (results_cell_row rfl _ _ (w.heap.size + 1) 149 _ _ _ rfl S.out Try.underlying149 rfl Z4.out) rfl ⟨rfl, SB.out⟩
end Go.Proofs.Ytckgjghpfjinfak.W

namespace Go.Proofs.Ytckgjghpfjinfak.W
open Go.ChangeShapes Go.WideShapes Go.ChangeAt Go.RowKit
open Go.Proofs.Ytckgjghpfjinfak.M

theorem tp1 (a : Nat) (ha : a < 256) (w : World) :
    Calls Try.prog 111 #[.int .u8 (a : Int)] w fun e w' => e = .returned (.int .u8 (xt a : Nat)) ∧ w' = w := by
  go_enter Try.func111, Try.ntmps111
  go_wp2
  · go_ret
    exact ⟨ret_int (xt_hi' a ‹_› ha), rfl⟩
  · go_ret
    exact ⟨ret_int (xt_lo' a ‹_› ha), rfl⟩

end Go.Proofs.Ytckgjghpfjinfak.W

namespace Go.Proofs.Ytckgjghpfjinfak.W
open Go.ChangeShapes Go.WideShapes Go.ChangeAt Go.RowKit
open Go.Proofs.Ytckgjghpfjinfak.M

/-- The code and the value. -/
def rcC (i : Int) : Int := if 1 ≤ i ∧ i ≤ 10 then 0 else 3
def rcV (i : Int) : Int := if 1 ≤ i ∧ i ≤ 10 then ((xtN 1 (i.toNat - 1) : Nat) : Int) else 0
theorem xtN1_lt (k : Nat) : xtN 1 k < 256 := xtN_lt 1 (by omega) k
set_option maxRecDepth 100000 in
theorem ircon (i : Int) (w : World) :
    Calls Try.prog 114 #[.int .i64 i] w fun e w' => e = .returned (.agg #[.int .i64 (rcC i), .int .i64 (rcV i)]) ∧ Below w.heap.size w w' := by
  by_cases h : 1 ≤ i ∧ i ≤ 10
  · have hin : inB i 1 10 = true := by unfold inB; exact decide_eq_true h
    have C : Hid (rcC i = 0) := by unfold Hid rcC; rw [if_pos h]
    have V : Hid (rcV i = ((xtN 1 (i.toNat - 1) : Nat) : Int)) := by unfold Hid rcV; rw [if_pos h]
    obtain ⟨n, rfl⟩ : ∃ t : Nat, i = t := ⟨i.toNat, by omega⟩
    rw [C.out, V.out, Int.toNat_natCast]
    go_enter Try.func114, Try.ntmps114
    go_wp2_with fail
    refine (within1 _ _ _ _ _ (heap_alloc2_new w _ _)).mono ?_
    rintro e w1 ⟨rfl, hB⟩
    have hv : w1.heap[w.heap.size]? = some (.cells #[.int .i64 0, .int .i64 0] 103) := by rw [hB.block _ (by simp; omega)]; exact heap_alloc2_old w _ _
    have hb1 : Below w.heap.size w w1 := (below_alloc2 w _ _).trans (hB.mono (by simp; omega))
    clear hB
    go_wp2
    go_loop [3, 12] (fun p j => ∃ k : Nat, k + 1 ≤ n ∧ j = .int .i64 k ∧ p = .int .u8 (xtN 1 k : Nat)) (fun _ j => n - (intOf j).toNat)
    case atStart => exact ⟨0, by omega, rfl, rfl⟩
    case round =>
      obtain ⟨k, hk, rfl, rfl⟩ := hrel
      have hx := xtN1_lt k
      by_cases hlt : k + 1 < n
      · have X := hid (show xtN 1 (k + 1) = xt (xtN 1 k) from rfl)
        generalize xtN 1 k = x at *
        go_wp2_with fail
        refine (tp1 x hx _).mono ?_
        rintro e w' ⟨rfl, rfl⟩
        go_wp2_with fail
        exact ⟨⟨k + 1, by omega, by go_num, by rw [X.out]⟩, by simp [intOf]; omega⟩
      · have hk8 : k = n - 1 := by omega
        subst hk8
        obtain ⟨f1, f2, f3, f4⟩ := var2_facts hv
        have hset := var2_set (x' := .int .i64 0) (y' := .int .i64 (xtN 1 (n - 1) : Nat)) hv
        have hbel := below_set2 (x := .int .i64 0) (y := .int .i64 (xtN 1 (n - 1) : Nat)) hb1 (Nat.le_refl _)
        clear hv hb1
        go_wp2
        exact bodyPost_ret (v := .agg #[.int .i64 0, .int .i64 (xtN 1 (n - 1) : Nat)]) (results_cell_row rfl _ _ w.heap.size 103 _ _ _ rfl hset Try.underlying103 rfl (by kernel_rfl)) rfl ⟨rfl, hbel⟩
  · have hin : inB i 1 10 = false := by unfold inB; exact decide_eq_false h
    have C : Hid (rcC i = 3) := by unfold Hid rcC; rw [if_neg h]
    have V : Hid (rcV i = 0) := by unfold Hid rcV; rw [if_neg h]
    rw [C.out, V.out]
    clear h
    go_enter Try.func114, Try.ntmps114
    go_wp2_with fail
    refine (within1 _ _ _ _ _ (heap_alloc2_new w _ _)).mono ?_
    rintro e w1 ⟨rfl, hB⟩
    have hv : w1.heap[w.heap.size]? = some (.cells #[.int .i64 0, .int .i64 0] 103) := by rw [hB.block _ (by simp; omega)]; exact heap_alloc2_old w _ _
    have hb1 : Below w.heap.size w w1 := (below_alloc2 w _ _).trans (hB.mono (by simp; omega))
    obtain ⟨f1, f2, f3, f4⟩ := var2_facts hv
    have hset := var2_set (x' := .int .i64 3) (y' := .int .i64 0) hv
    have hbel := below_set2 (x := .int .i64 3) (y := .int .i64 0) hb1 (Nat.le_refl _)
    clear hB hv hb1
    go_wp2
    exact bodyPost_ret (v := .agg #[.int .i64 3, .int .i64 0]) (results_cell_row rfl _ _ w.heap.size 103 _ _ _ rfl hset Try.underlying103 rfl (by kernel_rfl)) rfl ⟨rfl, hbel⟩
end Go.Proofs.Ytckgjghpfjinfak.W

namespace Go.Proofs.Ytckgjghpfjinfak.W
open Go.ChangeShapes Go.WideShapes Go.ChangeAt Go.RowKit
open Go.Proofs.Ytckgjghpfjinfak.M

theorem zero_words : ∀ w : World, (zeroValue 150).run Try.prog w = .ok (.agg (arr (zs 176))) w :=
  (zero_of_info (P := Try.prog) (t := 150) (v := .agg (arr (zs 176))) (n := 176) (by kernel_rfl)).1
theorem words_size (l : List Nat) (hl : l.length = 176) : (Try.prog.info? 150).map (·.size) = some (arr l).size := by rw [arr_size, hl]; kernel_rfl
theorem word_size (l : List Nat) (hl : l.length = 4) : (Try.prog.info? 149).map (·.size) = some (arr l).size := by rw [arr_size, hl]; kernel_rfl
/-- Where word i lies. -/
theorem idx_word (g o i : Nat) (hi : i < 44) (w : World) : (Instr.indexAt 150 (.pointer (some ⟨g, o, none⟩)) (.int .i64 (i : Int))).run Try.prog w = .ok (.pointer (some ⟨g, o + 4 * i, none⟩)) w := by
  have hs : ∀ w : World, (sizeOf (Try.prog.elem 150)).run Try.prog w = .ok 4 w := fun _ => by kernel_rfl
  have hl : Try.prog.arrayLen 150 = 44 := by kernel_rfl
  rw [run_indexAt_array (P := Try.prog) w 150 _ .i64 (i : Int) (by kernel_rfl), hl, if_pos (by omega), hs]
  simp [Result.andThen, Addr.add_lit, Nat.mul_comm]
theorem idx_byte (g o k : Nat) (hk : k < 4) (w : World) : (Instr.indexAt 149 (.pointer (some ⟨g, o, none⟩)) (.int .i64 (k : Int))).run Try.prog w = .ok (.pointer (some ⟨g, o + k, none⟩)) w := by
  have hs : ∀ w : World, (sizeOf (Try.prog.elem 149)).run Try.prog w = .ok 1 w := fun _ => by kernel_rfl
  have hl : Try.prog.arrayLen 149 = 4 := by kernel_rfl
  rw [run_indexAt_array (P := Try.prog) w 149 _ .i64 (k : Int) (by kernel_rfl), hl, if_pos (by omega), hs]
  simp [Result.andThen, Addr.add_lit]
/-- Four bytes of a key. -/
theorem cut_key (g c : Nat) (hc : c < 4) (w : World) : (Instr.sliceAt 91 (.pointer (some ⟨g, 0, none⟩)) (some (.int .i64 (4 * (c : Int)))) (some (.int .i64 (4 * ((c : Int) + 1)))) none).run Try.prog w = .ok (.slice (some ⟨g, 4 * c, none⟩) 4 (16 - 4 * c)) w := by
  have hs : ∀ w : World, (sizeOf (Try.prog.elem 91)).run Try.prog w = .ok 1 w := fun _ => by kernel_rfl
  rw [run_sliceAt_array_lh (P := Try.prog) w 91 _ (by kernel_rfl) .i64 .i64 (4 * (c : Int)) (4 * ((c : Int) + 1)) (by omega) (by omega) (by rw [show Try.prog.arrayLen 91 = 16 by kernel_rfl]; omega), hs]
  have e1 : (4 * (c : Int)).toNat = 4 * c := by omega
  have e2 : (4 * ((c : Int) + 1)).toNat = 4 * c + 4 := by omega
  have e3 : ¬ (16 = 4 * c) := by omega
  simp [Result.andThen, slicedAt, e1, e2, e3, Addr.add_lit, show Try.prog.arrayLen 91 = 16 by kernel_rfl]

set_option maxHeartbeats 2000000 in
set_option maxRecDepth 100000 in
theorem expk (key : List Nat) (gx : Nat) (w : World) (hk : key.length = 16) (y : Byt key) (hX : ∀ a, a < 256 → w.cell? ⟨gx, a, none⟩ = some (.int .u8 (sbx a : Nat))) :
    Calls Try.prog 103 #[.agg (arr key), .pointer (some ⟨gx, 0, none⟩)] w fun e w' => e = .returned (.agg (arr (rowTo 176 (kf key) 176))) ∧ Below w.heap.size w w' := by
  have hz1 := zero_words
  have HX := hid hX
  have HK := hid hk
  have KL := hid (kf_lt key y)
  have KS := hid (kf_step key hk)
  have KW := hid (kf_low key hk)
  clear hX
  go_enter Try.func103, Try.ntmps103
  go_wp2_with fail
  have K0 := ((Ar.new w 91 key).alloc (.cells (arr (zs 176)) 150)).alloc (.cells (arr (zs 176)) 150)
  have R0 : Ar ((w.alloc (.cells (arr key) 91)).alloc (.cells (arr (zs 176)) 150)) (w.heap.size + 1) 150 (zs 176) := heap_alloc2_new w _ _
  replace R0 := R0.alloc (.cells (arr (zs 176)) 150)
  have A0 : Ar (((w.alloc (.cells (arr key) 91)).alloc (.cells (arr (zs 176)) 150)).alloc (.cells (arr (zs 176)) 150)) (w.heap.size + 1 + 1) 150 (zs 176) := by
    have h := heap_alloc2_new (w.alloc (.cells (arr key) 91)) (.cells (arr (zs 176)) 150) (.cells (arr (zs 176)) 150)
    rw [World.size_alloc] at h
    exact h
  have B0 := (below_alloc2 w (.cells (arr key) 91) (.cells (arr (zs 176)) 150)).alloc (by simp; omega) (.cells (arr (zs 176)) 150)
  generalize ((w.alloc (.cells (arr key) 91)).alloc (.cells (arr (zs 176)) 150)).alloc (.cells (arr (zs 176)) 150) = W at *
  rw [← rowTo_zero 176 (kf key)] at A0
  obtain ⟨g, hg⟩ : ∃ g, g = w.heap.size + 1 + 1 := ⟨_, rfl⟩
  rw [← hg] at A0 ⊢
  have Hg := hid hg
  generalize hF : kf key = F at *
  have HF := hid hF
  clear hF hg hk
  go_loopw [6, 7, 8, 9] (fun s6 s7 s8 s9 wr => ∃ n : Nat, ∃ u6 u7 u8 : Value, n ≤ 44 ∧ s9 = .int .i64 n ∧ s6 = u6 ∧ s7 = u7 ∧ s8 = u8 ∧ Ar wr g 150 (rowTo 176 F (4 * n)) ∧ Ar wr (w.heap.size + 1) 150 (zs 176) ∧ Ar wr w.heap.size 91 key ∧ Below w.heap.size w wr) (fun _ _ _ s9 _ => 44 - (intOf s9).toNat)
  case atStart => exact ⟨0, _, _, _, by omega, rfl, rfl, rfl, rfl, A0, R0, K0, B0⟩
  case round =>
    obtain ⟨n, v6, v7, v8, hn, rfl, rfl, rfl, rfl, A, R, K, B⟩ := hrel
    clear A0 R0 K0 B0 hz1
    by_cases hlt : n < 44
    · have n0 : (0 : Int) ≤ (n : Int) := by omega
      have hgw := Hg.out
      by_cases h4 : n < 4
      · have n1 : (n : Int) < 4 := by omega
        have HS := cut_key w.heap.size n h4
        have HP := arr_at 149 5 4 Try.underlying149 (some ⟨w.heap.size, 4 * n, none⟩) 4 (16 - 4 * n) (Nat.le_refl _)
        have HI := idx_word g 0 n hlt
        rw [Nat.zero_add] at HI
        have hcl := sub_len key (4 * n) 4 (by rw [HK.out]; omega)
        have Z4 := hid (word_size (sub key (4 * n) 4) hcl)
        have ZL := hid hcl
        have RG := hid (K.range (4 * n) 4)
        have TH := hid (A.there (4 * n) 4 (by rw [rowTo_len]; omega))
        have SA := hid (A.set4 (by omega) (sub key (4 * n) 4) hcl (fun k hk => by rw [sub_gt _ _ _ _ hk, KW.out _ (by omega)]))
        have SR := hid (R.far4 (g' := g) (m := 4 * n) (by omega) (sub key (4 * n) 4) hcl)
        have SK := hid (K.far4 (g' := g) (m := 4 * n) (by omega) (sub key (4 * n) 4) hcl)
        have SB := hid (below_set4 (g := g) (m := 4 * n) B (by omega) (sub key (4 * n) 4) hcl)
        clear A R K B hcl hgw
        go_wp2_with (first | refine load_sub rfl 149 _ rfl w.heap.size (4 * n) rfl (sub key (4 * n) 4) RG.out _ Try.underlying149 rfl Z4.out ?_ | refine wpList_store_mid rfl 149 _ _ rfl g (4 * n) (arr (sub key (4 * n) 4)) rfl rfl (by rw [arr_size, ZL.out]; exact TH.out) Z4.out (arr_one _) ?_)
        exact ⟨⟨n + 1, _, _, _, hlt, num_succ n, rfl, rfl, rfl, SA.out, SR.out, SK.out, SB.out⟩, meas 44 n hlt⟩
      · obtain ⟨m, hm⟩ : ∃ m, n = m + 4 := ⟨n - 4, by omega⟩
        obtain ⟨j1, hj1⟩ : ∃ j, j = m + 3 := ⟨_, rfl⟩
        obtain ⟨p, hp⟩ : ∃ p, p = 12 + 4 * m := ⟨_, rfl⟩
        have n1 : ¬ (n : Int) < 4 := by omega
        have e1 : (n : Int) - 1 = (j1 : Int) := by omega
        have HI := idx_word g 0 j1 (by omega)
        rw [show 0 + 4 * j1 = p by omega] at HI
        have RG := hid (A.range4 (F p) (F (p + 1)) (F (p + 2)) (F (p + 3)) (p := p) (by rw [rowTo_len]; omega) (rowTo_gt _ _ _ _ (by omega) (by omega)) (rowTo_gt _ _ _ _ (by omega) (by omega)) (rowTo_gt _ _ _ _ (by omega) (by omega)) (rowTo_gt _ _ _ _ (by omega) (by omega)))
        have TY := hid (fun h => twl_yes F m p (p + 1) (p + 2) (p + 3) h hp rfl rfl rfl)
        have TN := hid (fun h => twl_no F m p (p + 1) (p + 2) (p + 3) h hp rfl rfl rfl)
        have x0 := KL.out p
        have x1 := KL.out (p + 1)
        have x2 := KL.out (p + 2)
        have x3 := KL.out (p + 3)
        generalize F p = a0 at *
        generalize F (p + 1) = a1 at *
        generalize F (p + 2) = a2 at *
        generalize F (p + 3) = a3 at *
        have Z4 := hid (word_size [a0, a1, a2, a3] rfl)
        have T1 := Ar.new wr 149 [a0, a1, a2, a3]
        have A1 := A.alloc (.cells (arr [a0, a1, a2, a3]) 149)
        have R1 := R.alloc (.cells (arr [a0, a1, a2, a3]) 149)
        have K1 := K.alloc (.cells (arr [a0, a1, a2, a3]) 149)
        have B1 := B.alloc B.size (.cells (arr [a0, a1, a2, a3]) 149)
        have hgt := A.lt
        have Hm := hid hm
        have Hp := hid hp
        have Hj := hid hj1
        have em : (n : Int) % 4 = ((m % 4 : Nat) : Int) := by omega
        clear A R K B hgw hm hp hj1 h4
        go_upto_if 30 with (first | refine load_sub rfl 149 _ rfl g p rfl [a0, a1, a2, a3] RG.out _ Try.underlying149 rfl Z4.out ?_ | refine wpList_store_row rfl 149 _ _ rfl wr.heap.size (arr [a0, a1, a2, a3]) rfl rfl 149 _ (heap_alloc_new wr _) Z4.out (by rw [arr_size]; rfl) (arr_one _) ?_)
        rw [World.setRow_alloc_new]
        generalize wr.alloc (.cells (arr [a0, a1, a2, a3]) 149) = x1w at *
        have Hgt : Hid (g < wr.heap.size) := hgt
        generalize wr.heap.size = gt at *
        replace T1 := hid T1
        replace A1 := hid A1
        replace R1 := hid R1
        replace K1 := hid K1
        replace B1 := hid B1
        go_cut [9] from 9 to 57 (fun c9 wx => c9 = .int .i64 n ∧ Ar wx gt 149 (twl F m) ∧ Ar wx g 150 (rowTo 176 F (4 * n)) ∧ Ar wx (w.heap.size + 1) 150 (zs 176) ∧ Ar wx w.heap.size 91 key ∧ Below w.heap.size w wx)
        case first =>
          by_cases hq : m % 4 = 0
          · have t30 : ((m : Int) % 4 == 0) = true := by rw [beq_iff_eq]; omega
            have TW := hid (TY.out hq)
            -- REGION 9
            obtain ⟨cc, hcc⟩ : ∃ c, c = xtN 1 ((m + 3) / 4) := ⟨_, rfl⟩
            rw [← hcc] at TW
            obtain ⟨dd, hdd⟩ : ∃ d, d = n / 4 := ⟨_, rfl⟩
            have hm' := Hm.out
            have CR : Hid (∀ w : World, Calls Try.prog 114 #[.int .i64 (dd : Int)] w fun e w' => e = .returned (.agg #[.int .i64 0, .int .i64 (cc : Nat)]) ∧ Below w.heap.size w w') := fun w => by
              have h := ircon (dd : Int) w
              have c1 : rcC (dd : Int) = 0 := by unfold rcC; rw [if_pos (by omega)]
              have c2 : rcV (dd : Int) = ((cc : Nat) : Int) := by unfold rcV; rw [if_pos (by omega), hcc, Int.toNat_natCast, show dd - 1 = (m + 3) / 4 by omega]
              rw [c1, c2] at h
              exact h
            have xc : cc < 256 := by rw [hcc]; exact xtN_lt 1 (by omega) _
            have e5 : (n : Int) / 4 = (dd : Int) := by omega
            have e6 : (n : Int).tdiv 4 = (dd : Int) := by rw [Int.tdiv_eq_ediv_of_nonneg (by omega)]; omega
            have ZT := hid (word_size [sbx a1 ^^^ cc, sbx a2, sbx a3, sbx a0] rfl)
            have e7 : IntKind.i64.wrap (dd : Int) = (dd : Int) := by rw [IntKind.wrap_i64]; omega
            have e8 : IntKind.u8.wrap (cc : Int) = (cc : Int) := by rw [IntKind.wrap_u8]; omega
            have hfl : ∀ w : World, (Instr.field 103 (.agg #[.int .i64 0, .int .i64 (cc : Int)]) 1).run Try.prog w = .ok (.int .i64 (cc : Int)) w := fun _ => by kernel_rfl
            have F1 := hid T1.out.drew
            have F2 := hid A1.out.drew
            have F3 := hid R1.out.drew
            have F4 := hid K1.out.drew
            have F5 := hid B1.out.drew
            clear TY TN hq hcc hdd hm' em T1 A1 R1 K1 B1
            go_wp2_with fail
            refine wp_region_held_drew (S := fun _ => True) (by kernel_rfl) trivial (fun hH => ?_)
            generalize x1w.drew = y1 at *
            refine wpAnyH_take (i := 1) (v := .pointer (some ⟨gx, 0, none⟩)) (by simp only [List.getElem?_toArray, List.getElem?_cons_succ, List.getElem?_cons_zero]; rfl) (by kernel_rfl) (by kernel_rfl) (by kernel_rfl) (by intro _ _ _ h; exact h) (Or.inl ⟨by rfl, fun w _ => by go_simp⟩) hH ?_
            simp only [Act.put, List.setIfInBounds_toArray, List.set_cons_zero, List.set_cons_succ]
            refine wpAnyH_take (i := 2) (v := .int .i64 (n : Int)) (by simp only [List.getElem?_toArray, List.getElem?_cons_succ, List.getElem?_cons_zero]; rfl) (by kernel_rfl) (by kernel_rfl) (by kernel_rfl) (by intro _ _ _ h; exact h) (Or.inl ⟨by rfl, fun w _ => by go_simp⟩) hH ?_
            simp only [Act.put, List.setIfInBounds_toArray, List.set_cons_zero, List.set_cons_succ]
            refine wpAnyH_take (i := 3) (v := .int .i64 (dd : Int)) (by simp only [List.getElem?_toArray, List.getElem?_cons_succ, List.getElem?_cons_zero]; rfl) (by kernel_rfl) (by kernel_rfl) (by kernel_rfl) (by intro _ _ _ h; exact h) (Or.inl ⟨by rfl, fun w _ => by go_simp⟩) hH ?_
            simp only [Act.put, List.setIfInBounds_toArray, List.set_cons_zero, List.set_cons_succ]
            refine wpAnyH_ready (rs := [0, 4]) (by kernel_rfl) (by simp) ?_
            refine AllReadyH.cons (by simp only [List.getElem?_toArray, List.getElem?_cons_zero]; rfl) (fun K hK => ?_) ?_
            · skip
              refine step_load_sub (by rfl) 149 _ (by rfl) gt 0 (by rfl) [a0, a1, a2, a3] (Ar.range4 F1.out a0 a1 a2 a3 (p := 0) (by simp) rfl rfl rfl rfl) _ Try.underlying149 rfl Z4.out ?_
              refine hK.out _ _ trivial (fun hH => ?_)
              clear hK K
              simp only [Act.put, List.setIfInBounds_toArray, List.set_cons_zero, List.set_cons_succ]
              refine wpAnyH_ready (rs := [4]) (by kernel_rfl) (by simp) ?_
              refine AllReadyH.cons (by simp only [List.getElem?_toArray, List.getElem?_cons_succ, List.getElem?_cons_zero]; rfl) (fun K hK => ?_) AllReadyH.nil
              go_simp
              refine (CR.out _).mono ?_
              rintro e y2 ⟨rfl, hM⟩
              refine hK.out _ _ trivial (fun hH => ?_)
              clear hK K
              replace F1 := hid (F1.out.below hM)
              replace F2 := hid (F2.out.below hM)
              replace F3 := hid (F3.out.below hM)
              replace F4 := hid (F4.out.below hM)
              replace F5 := hid (F5.out.trans (hM.mono F5.out.size))
              clear hM
              refine wpAnyH_take (i := 5) (v := .int .i64 (cc : Int)) (by simp only [List.getElem?_toArray, List.getElem?_cons_succ, List.getElem?_cons_zero]; rfl) (by kernel_rfl) (by kernel_rfl) (by kernel_rfl) (by intro _ _ _ h; exact h) (Or.inl ⟨by rfl, fun w _ => by go_simp⟩) hH ?_
              simp only [Act.put, List.setIfInBounds_toArray, List.set_cons_zero, List.set_cons_succ]
              refine wpAnyH_take (i := 6) (v := .int .u8 (cc : Int)) (by simp only [List.getElem?_toArray, List.getElem?_cons_succ, List.getElem?_cons_zero]; rfl) (by kernel_rfl) (by kernel_rfl) (by kernel_rfl) (by intro _ _ _ h; exact h) (Or.inl ⟨by rfl, fun w _ => by go_simp⟩) hH ?_
              simp only [Act.put, List.setIfInBounds_toArray, List.set_cons_zero, List.set_cons_succ]
              refine wpAnyH_ready (rs := [7]) (by kernel_rfl) (by simp) ?_
              refine AllReadyH.cons (by simp only [List.getElem?_toArray, List.getElem?_cons_succ, List.getElem?_cons_zero]; rfl) (fun K hK => ?_) AllReadyH.nil
              go_simp
              refine (turnd a0 a1 a2 a3 cc gx _ x0 x1 x2 x3 xc (fun a ha => cell_kept F5.out (HX.out a ha))).mono ?_
              rintro e y9 ⟨rfl, hM⟩
              refine hK.out _ _ trivial (fun hH => ?_)
              clear hK K
              replace F1 := hid (F1.out.below hM)
              replace F2 := hid (F2.out.below hM)
              replace F3 := hid (F3.out.below hM)
              replace F4 := hid (F4.out.below hM)
              replace F5 := hid (F5.out.trans (hM.mono F5.out.size))
              clear hM
              refine wpAnyH_ready (rs := [8]) (by kernel_rfl) (by simp) ?_
              refine AllReadyH.cons (by simp only [List.getElem?_toArray, List.getElem?_cons_succ, List.getElem?_cons_zero]; rfl) (fun K hK => ?_) AllReadyH.nil
              refine step_store_row (by rfl) _ _ _ (by rfl) gt (arr [sbx a1 ^^^ cc, sbx a2, sbx a3, sbx a0]) (by rfl) (by rfl) 149 _ F1.out ZT.out (by rw [arr_size, arr_size]; rfl) (arr_one _) ?_
              refine hK.out _ _ trivial (fun hH => ?_)
              clear hK K
              simp only [Act.put]
              refine wpAnyH_done (by kernel_rfl) ?_ _
              have q1 := Hgt.out
              have q2 := Hg.out
              have q3 := hid (show w.heap.size ≤ gt by omega)
              have q4 := hid (show g ≠ gt by omega)
              have q5 := hid (show w.heap.size + 1 ≠ gt by omega)
              have q6 := hid (show w.heap.size ≠ gt by omega)
              clear q1 q2
              go_wp2_with fail
              go_meet
              case rel => exact ⟨rfl, by rw [TW.out]; exact F1.out.row, F2.out.rowFar _ q4.out, F3.out.rowFar _ q5.out, F4.out.rowFar _ q6.out, below_row F5.out q3.out _⟩
            refine AllReadyH.cons (by simp only [List.getElem?_toArray, List.getElem?_cons_succ, List.getElem?_cons_zero]; rfl) (fun K hK => ?_) AllReadyH.nil
            go_simp
            refine (CR.out _).mono ?_
            rintro e y2 ⟨rfl, hM⟩
            refine hK.out _ _ trivial (fun hH => ?_)
            clear hK K
            replace F1 := hid (F1.out.below hM)
            replace F2 := hid (F2.out.below hM)
            replace F3 := hid (F3.out.below hM)
            replace F4 := hid (F4.out.below hM)
            replace F5 := hid (F5.out.trans (hM.mono F5.out.size))
            clear hM
            refine wpAnyH_take (i := 5) (v := .int .i64 (cc : Int)) (by simp only [List.getElem?_toArray, List.getElem?_cons_succ, List.getElem?_cons_zero]; rfl) (by kernel_rfl) (by kernel_rfl) (by kernel_rfl) (by intro _ _ _ h; exact h) (Or.inl ⟨by rfl, fun w _ => by go_simp⟩) hH ?_
            simp only [Act.put, List.setIfInBounds_toArray, List.set_cons_zero, List.set_cons_succ]
            refine wpAnyH_take (i := 6) (v := .int .u8 (cc : Int)) (by simp only [List.getElem?_toArray, List.getElem?_cons_succ, List.getElem?_cons_zero]; rfl) (by kernel_rfl) (by kernel_rfl) (by kernel_rfl) (by intro _ _ _ h; exact h) (Or.inl ⟨by rfl, fun w _ => by go_simp⟩) hH ?_
            simp only [Act.put, List.setIfInBounds_toArray, List.set_cons_zero, List.set_cons_succ]
            refine wpAnyH_ready (rs := [0]) (by kernel_rfl) (by simp) ?_
            refine AllReadyH.cons (by simp only [List.getElem?_toArray, List.getElem?_cons_zero]; rfl) (fun K hK => ?_) AllReadyH.nil
            refine step_load_sub (by rfl) 149 _ (by rfl) gt 0 (by rfl) [a0, a1, a2, a3] (Ar.range4 F1.out a0 a1 a2 a3 (p := 0) (by simp) rfl rfl rfl rfl) _ Try.underlying149 rfl Z4.out ?_
            refine hK.out _ _ trivial (fun hH => ?_)
            clear hK K
            simp only [Act.put, List.setIfInBounds_toArray, List.set_cons_zero, List.set_cons_succ]
            refine wpAnyH_ready (rs := [7]) (by kernel_rfl) (by simp) ?_
            refine AllReadyH.cons (by simp only [List.getElem?_toArray, List.getElem?_cons_succ, List.getElem?_cons_zero]; rfl) (fun K hK => ?_) AllReadyH.nil
            go_simp
            refine (turnd a0 a1 a2 a3 cc gx _ x0 x1 x2 x3 xc (fun a ha => cell_kept F5.out (HX.out a ha))).mono ?_
            rintro e y9 ⟨rfl, hM⟩
            refine hK.out _ _ trivial (fun hH => ?_)
            clear hK K
            replace F1 := hid (F1.out.below hM)
            replace F2 := hid (F2.out.below hM)
            replace F3 := hid (F3.out.below hM)
            replace F4 := hid (F4.out.below hM)
            replace F5 := hid (F5.out.trans (hM.mono F5.out.size))
            clear hM
            refine wpAnyH_ready (rs := [8]) (by kernel_rfl) (by simp) ?_
            refine AllReadyH.cons (by simp only [List.getElem?_toArray, List.getElem?_cons_succ, List.getElem?_cons_zero]; rfl) (fun K hK => ?_) AllReadyH.nil
            refine step_store_row (by rfl) _ _ _ (by rfl) gt (arr [sbx a1 ^^^ cc, sbx a2, sbx a3, sbx a0]) (by rfl) (by rfl) 149 _ F1.out ZT.out (by rw [arr_size, arr_size]; rfl) (arr_one _) ?_
            refine hK.out _ _ trivial (fun hH => ?_)
            clear hK K
            simp only [Act.put]
            refine wpAnyH_done (by kernel_rfl) ?_ _
            have q1 := Hgt.out
            have q2 := Hg.out
            have q3 := hid (show w.heap.size ≤ gt by omega)
            have q4 := hid (show g ≠ gt by omega)
            have q5 := hid (show w.heap.size + 1 ≠ gt by omega)
            have q6 := hid (show w.heap.size ≠ gt by omega)
            clear q1 q2
            go_wp2_with fail
            go_meet
            case rel => exact ⟨rfl, by rw [TW.out]; exact F1.out.row, F2.out.rowFar _ q4.out, F3.out.rowFar _ q5.out, F4.out.rowFar _ q6.out, below_row F5.out q3.out _⟩
          · have t30 : ((m : Int) % 4 == 0) = false := by rw [beq_eq_false_iff_ne]; omega
            have TW := hid (TN.out hq)
            clear TY TN hq
            go_wp2_with fail
            go_meet
            case rel => exact ⟨rfl, by rw [TW.out]; exact T1.out, A1.out, R1.out, K1.out, B1.out⟩
        case rest =>
          obtain ⟨rfl, T2, A2, R2, K2, B2⟩ := hcut
          clear A1 B1 T1 R1 K1 TY TN x0 x1 x2 x3 Z4 RG HI
          have KT := hid (fun k => tw_lt F KL.out m k)
          have hB0 := B2.size
          go_wp2_with fail
          go_loopw [8, 39] (fun s8 s39 ws => ∃ k : Nat, ∃ u : Value, k ≤ 4 ∧ s39 = .int .i64 k ∧ s8 = u ∧ Ar ws gt 149 (twl F m) ∧ Ar ws g 150 (rowTo 176 F (4 * n + k)) ∧ Ar ws (w.heap.size + 1) 150 (zs 176) ∧ Ar ws w.heap.size 91 key ∧ Below w.heap.size w ws) (fun _ s39 _ => 4 - (intOf s39).toNat)
          case atStart => exact ⟨0, _, by omega, rfl, rfl, T2, A2, R2, K2, B2⟩
          case round =>
            obtain ⟨k, v8', hk4, rfl, rfl, T3, A3, R3, K3, B3⟩ := hrel
            clear T2 A2 R2 K2 B2
            by_cases hlk : k < 4
            · obtain ⟨t, ht⟩ : ∃ t, t = 4 * n + k := ⟨_, rfl⟩
              obtain ⟨q, hq⟩ : ∃ q, q = 4 * m + k := ⟨_, rfl⟩
              have hm' := Hm.out
              have hgw := Hg.out
              rw [← ht] at A3
              have c1 := A3.cell q (by rw [rowTo_len]; omega)
              rw [rowTo_gt _ _ _ _ (by omega) (by omega)] at c1
              have c2 := T3.cell k (by rw [twl_len]; exact hlk)
              rw [twl_gt _ _ _ hlk] at c2
              have c3 : ∃ u, wr.cell? ⟨g, t, none⟩ = some u := ⟨_, A3.cell t (by rw [rowTo_len]; omega)⟩
              obtain ⟨u3, c3⟩ := c3
              have f3 := A3.open t
              have S := A3.stored t (F t)
              rw [rowTo_set 176 F t (by omega)] at S
              have ST := T3.far (g' := g) (k := t) (.int .u8 (F t : Nat)) (by have := Hgt.out; omega)
              have SR := R3.far (g' := g) (k := t) (.int .u8 (F t : Nat)) (by omega)
              have SK := K3.far (g' := g) (k := t) (.int .u8 (F t : Nat)) (by omega)
              have SB := B3.setCell (p := ⟨g, t, none⟩) (by simp; omega) (.int .u8 (F t : Nat))
              have hFm : F t = F q ^^^ tw F m k := by
                have := KS.out m k (by omega) hlk
                rw [show 16 + 4 * m + k = t by omega, show 4 * m + k = q by omega] at this
                exact this
              have y1 := KL.out q
              have y2 := KT.out k
              have E : bits .xor .u8 (F q : Nat) (tw F m k : Nat) = ((F t : Nat) : Int) := by rw [xor8 _ _ y1 y2, hFm]
              have e2 : (n : Int) - 4 = (m : Int) := by omega
              have k0 : (0 : Int) ≤ (k : Int) := by omega
              have k1 : (k : Int) < 4 := by omega
              have I1 := idx_word g 0 m (by omega)
              have I2 := idx_word g 0 n (by omega)
              rw [Nat.zero_add] at I1 I2
              have J1 := idx_byte g (4 * m) k hlk
              have J2 := idx_byte g (4 * n) k hlk
              rw [show 4 * m + k = q by omega] at J1
              rw [show 4 * n + k = t by omega] at J2
              have J3 := idx_byte gt 0 k hlk
              rw [Nat.zero_add] at J3
              have v2 : IntKind.i64.wrap (m : Int) = (m : Int) := by rw [IntKind.wrap_i64]; omega
              have Ht := hid ht
              replace S := hid S
              replace ST := hid ST
              replace SR := hid SR
              replace SK := hid SK
              replace SB := hid SB
              clear A3 T3 R3 K3 B3 ht hq hm' hFm hgw
              generalize F q = z1 at *
              generalize tw F m k = z2 at *
              generalize F t = z3 at *
              go_wp2_with fail
              refine wp_region_still_tail 14 (by kernel_rfl) (by kernel_rfl) ?_
              change wpStill _ _ (World.drew _) (fun a' => wpList _ _ _ _ a' (World.drew _)) _ _
              simp only [List.take_succ_cons, List.take_zero, List.drop_succ_cons, List.drop_zero]
              repeat still_step
              refine wpStill_nil ?_
              go_wp2
              exact ⟨⟨k + 1, _, hlk, num_succ k, rfl, ST.out.drew, by rw [show 4 * n + (k + 1) = t + 1 by have := Ht.out; omega]; exact S.out.drew, SR.out.drew, SK.out.drew, SB.out.drew⟩, meas 4 k hlk⟩
            · have hk44 : k = 4 := by omega
              subst hk44
              go_wp2
              exact ⟨⟨n + 1, _, _, _, hlt, num_succ n, rfl, rfl, rfl, by rw [show 4 * (n + 1) = 4 * n + 4 by omega]; exact A3, R3, K3, B3⟩, meas 44 n hlt⟩
    · have hn44 : n = 44 := by omega
      subst hn44
      rw [show 4 * 44 = 176 from rfl, ← HF.out] at A
      have Z := hid (words_size (rowTo 176 (kf key) 176) (rowTo_len _ _ _))
      have SR := hid (R.row (l' := rowTo 176 (kf key) 176))
      have SB := hid (below_row B (g := w.heap.size + 1) (by omega) (arr (rowTo 176 (kf key) 176)))
      have ho := hid (show (arr (zs 176)).size = (arr (rowTo 176 (kf key) 176)).size by rw [arr_size, arr_size, zs_len, rowTo_len])
      replace A := hid A
      replace R := hid R
      clear K B hlt
      go_wp2_with (first | refine wpList_load_row rfl 150 _ rfl g rfl 150 (arr (rowTo 176 (kf key) 176)) _ _ A.out Try.underlying150 rfl Z.out ?_ | refine wpList_store_row rfl 150 _ _ rfl (w.heap.size + 1) (arr (rowTo 176 (kf key) 176)) rfl rfl 150 _ R.out Z.out ho.out (arr_one _) ?_)
      exact bodyPost_ret (v := .agg (arr (rowTo 176 (kf key) 176))) (results_cell_row rfl _ _ (w.heap.size + 1) 150 _ _ _ rfl SR.out Try.underlying150 rfl Z.out) rfl ⟨rfl, SB.out⟩
end Go.Proofs.Ytckgjghpfjinfak.W

namespace Go.Proofs.Ytckgjghpfjinfak.W
open Go.ChangeShapes Go.WideShapes Go.ChangeAt Go.RowKit
open Go.Proofs.Ytckgjghpfjinfak.M

theorem rot_0 (x : Nat) (hx : x < 256) : bits .or .u8 (x : Int) ((x : Int) / 256) = ((rot x 0 : Nat) : Int) := by
  have h := rot_at x 1 256 hx
  have e : (x : Int) * ((1 : Nat) : Int) % 256 = x := by omega
  rw [e] at h
  exact h

theorem rotl (x : Nat) (k : Int) (hx : x < 256) (hk : k = 0 ∨ k = -4 ∨ k = -5 ∨ k = -6 ∨ k = -7) (w : World) :
    Calls Try.prog 117 #[.int .u8 (x : Int), .int .i64 k] w fun e w' => e = .returned (.int .u8 (rot x (-k).toNat : Nat)) ∧ w' = w := by
  have f0 : bits .and .u64 0 7 = 0 := by decide +kernel
  have f4 : bits .and .u64 (IntKind.u64.wrap (-4)) 7 = 4 := by decide +kernel
  have f5 : bits .and .u64 (IntKind.u64.wrap (-5)) 7 = 3 := by decide +kernel
  have f6 : bits .and .u64 (IntKind.u64.wrap (-6)) 7 = 2 := by decide +kernel
  have f7 : bits .and .u64 (IntKind.u64.wrap (-7)) 7 = 1 := by decide +kernel
  rcases hk with rfl | rfl | rfl | rfl | rfl
  all_goals
    go_enter Try.func117, Try.ntmps117
    go_wp2
    go_ret
    refine ⟨ret_int ?_, rfl⟩
  · exact rot_0 x hx
  · exact rot_4 x hx
  · exact rot_5 x hx
  · exact rot_6 x hx
  · exact rot_7 x hx

set_option maxRecDepth 100000 in
theorem boi (x : Nat) (hl : x < 256) (w : World) :
    Calls Try.prog 112 #[.int .u8 (x : Int)] w fun e w' => e = .returned (.int .u8 (bi x : Nat)) ∧ w' = w := by
  have X : Hid (bi x = ((((99 ^^^ rot x 0) ^^^ rot x 4) ^^^ rot x 5) ^^^ rot x 6) ^^^ rot x 7) := rfl
  have i0 : ∀ w : World, (Instr.index 162 (.agg #[.int .i64 0, .int .i64 4, .int .i64 5, .int .i64 6, .int .i64 7]) (.int .i64 0)).run Try.prog w = .ok (.int .i64 0) w := fun _ => by kernel_rfl
  have i1 : ∀ w : World, (Instr.index 162 (.agg #[.int .i64 0, .int .i64 4, .int .i64 5, .int .i64 6, .int .i64 7]) (.int .i64 1)).run Try.prog w = .ok (.int .i64 4) w := fun _ => by kernel_rfl
  have i2 : ∀ w : World, (Instr.index 162 (.agg #[.int .i64 0, .int .i64 4, .int .i64 5, .int .i64 6, .int .i64 7]) (.int .i64 2)).run Try.prog w = .ok (.int .i64 5) w := fun _ => by kernel_rfl
  have i3 : ∀ w : World, (Instr.index 162 (.agg #[.int .i64 0, .int .i64 4, .int .i64 5, .int .i64 6, .int .i64 7]) (.int .i64 3)).run Try.prog w = .ok (.int .i64 6) w := fun _ => by kernel_rfl
  have i4 : ∀ w : World, (Instr.index 162 (.agg #[.int .i64 0, .int .i64 4, .int .i64 5, .int .i64 6, .int .i64 7]) (.int .i64 4)).run Try.prog w = .ok (.int .i64 7) w := fun _ => by kernel_rfl
  go_enter Try.func112, Try.ntmps112
  go_wp2
  refine wp_loop_rounds 6 ?_
  iterate 6
    rw [rounds_succ]
    go_wp2_with (go_at_call 117; refine (rotl x _ hl ?_ _).mono ?_; (omega); rintro e w' ⟨rfl, rfl⟩)
  go_ret
  exact ⟨ret_int (by rw [X.out]; exact sbx_sum x hl), rfl⟩

end Go.Proofs.Ytckgjghpfjinfak.W

namespace Go.Proofs.Ytckgjghpfjinfak.W
open Go.ChangeShapes Go.WideShapes Go.ChangeAt Go.RowKit
open Go.Proofs.Ytckgjghpfjinfak.M

theorem zero_box : ∀ w : World, (zeroValue 144).run Try.prog w = .ok (.agg (arr (zs 256))) w :=
  (zero_of_info (P := Try.prog) (t := 144) (v := .agg (arr (zs 256))) (n := 256) (by kernel_rfl)).1
theorem zero_pws : ∀ w : World, (zeroValue 159).run Try.prog w = .ok (.agg (arr (zs 255))) w :=
  (zero_of_info (P := Try.prog) (t := 159) (v := .agg (arr (zs 255))) (n := 255) (by kernel_rfl)).1

theorem boi0 (w : World) :
    Calls Try.prog 112 #[.int .u8 0] w fun e w' => e = .returned (.int .u8 (bi 0 : Nat)) ∧ w' = w := boi 0 (by omega) w

set_option maxRecDepth 100000 in
theorem mkbox (w : World) :
    Calls Try.prog 102 #[] w fun e w' => e = .returned (.agg (arr boxL)) ∧ Below w.heap.size w w' := by
  have hz1 := zero_box
  have hz2 := zero_pws
  go_enter Try.func102, Try.ntmps102
  go_wp2_with fail
  go_loopw [2, 3, 7] (fun p i j wr => ∃ k : Nat, ∃ u : Value, k ≤ 255 ∧ j = .int .i64 k ∧ p = .int .u8 (pw k : Nat) ∧ i = u ∧ Ar wr w.heap.size 144 (zs 256) ∧ Ar wr (w.heap.size + 1) 159 (pws k) ∧ Below w.heap.size w wr) (fun _ _ j _ => 255 - (intOf j).toNat)
  case atStart => exact ⟨0, _, by omega, rfl, rfl, rfl, (Ar.new w _ _).alloc _, by rw [pws_zero]; exact heap_alloc2_new w _ _, below_alloc2 w _ _⟩
  case round =>
    obtain ⟨k, u, hk, rfl, rfl, rfl, A0, A1, hB⟩ := hrel
    by_cases hlt : k < 255
    · have hp := pw_lt k
      have hl := pws_len k hk
      have c1 : ∃ u, wr.cell? ⟨w.heap.size + 1, k, none⟩ = some u := ⟨_, A1.cell k (by omega)⟩
      obtain ⟨u1, c1⟩ := c1
      have f1 := A1.open k
      have S1 := A1.stored k (pw k)
      rw [pws_set k hlt] at S1
      have S0 := A0.far (g' := w.heap.size + 1) (k := k) (.int .u8 (pw k : Nat)) (by omega)
      have SB := hB.setCell (p := ⟨w.heap.size + 1, k, none⟩) (by simp) (.int .u8 (pw k : Nat))
      have X : Hid (pw (k + 1) = pw k ^^^ xt (pw k)) := rfl
      replace S1 := hid S1
      replace S0 := hid S0
      replace SB := hid SB
      clear A0 A1 hB
      generalize pw k = x at *
      go_wp2_with (go_at_call 111; refine (tp1 x hp _).mono ?_; rintro e w' ⟨rfl, rfl⟩)
      exact ⟨⟨k + 1, _, by omega, by go_num, int_u8 (by rw [X.out]; exact xor8 _ _ hp (xt_lt x)), rfl, S0.out, S1.out, SB.out⟩, by simp [intOf]; omega⟩
    · have hk8 : k = 255 := by omega
      subst hk8
      obtain ⟨w1, rfl⟩ : ∃ w1, w1 = wr := ⟨_, rfl⟩
      clear hk hlt
      have hz := A1.lt
      have N2 := Ar.new w1 144 (zs 256)
      have N1 := A1.alloc (.cells (arr (zs 256)) 144)
      have N0 := A0.alloc (.cells (arr (zs 256)) 144)
      have NB := hB.alloc (by omega) (.cells (arr (zs 256)) 144)
      clear A0 A1 hB
      go_wp2_with fail
      refine (boi0 _).mono ?_
      rintro e w' ⟨rfl, rfl⟩
      generalize w1.alloc (.cells (arr (zs 256)) 144) = W at *
      generalize w1.heap.size = g at *
      have c2 := N2.cell 0 (by rw [zs_len]; omega)
      have f2 := N2.open 0
      have S2 := N2.stored 0 (bi 0)
      have S1 := N1.far (g' := g) (k := 0) (.int .u8 (bi 0 : Nat)) (by omega)
      have S0 := N0.far (g' := g) (k := 0) (.int .u8 (bi 0 : Nat)) (by omega)
      have SB := NB.setCell (p := ⟨g, 0, none⟩) (by simp; omega) (.int .u8 (bi 0 : Nat))
      rw [show (zs 256).set 0 (bi 0) = bx 0 from rfl] at S2
      clear N0 N1 N2 NB
      replace S2 := hid S2
      replace S1 := hid S1
      replace S0 := hid S0
      replace SB := hid SB
      go_wp2_with (refine wpList_load_row rfl 159 _ rfl (w.heap.size + 1) rfl 159 (arr (pws 255)) _ _ S1.out Try.underlying159 rfl (by rw [arr_size, pws_len 255 (by omega)]; kernel_rfl) ?_)
      go_loopw [5, 6, 21] (fun i p j wr => ∃ k : Nat, ∃ u v : Value, k ≤ 255 ∧ j = .int .i64 k ∧ i = u ∧ p = v ∧ Ar wr w.heap.size 144 (zs 256) ∧ Ar wr (w.heap.size + 1) 159 (pws 255) ∧ Ar wr g 144 (bx k) ∧ Below w.heap.size w wr) (fun _ _ j _ => 255 - (intOf j).toNat)
      case atStart => exact ⟨0, _, _, by omega, rfl, rfl, rfl, S0.out, S1.out, S2.out, SB.out⟩
      case round =>
        obtain ⟨k, u, v, hk, rfl, rfl, rfl, A0, A1, A2, hB⟩ := hrel
        clear S0 S1 S2 SB c2 f2 W
        by_cases hlt : k < 255
        · obtain ⟨j, hj⟩ : ∃ j, j = (255 - k) % 255 := ⟨_, rfl⟩
          have hj2 : j < 255 := by omega
          have ej : (255 - (k : Int)) % 255 = (j : Int) := by omega
          have X : Hid (bx (k + 1) = (bx k).set (pw k) (bi (pw j))) := by unfold Hid; rw [bx, hj]
          clear hj
          have hix := idx_arr 159 255 Try.underlying159 (pws 255) (pws_len 255 (by omega)) k hlt
          rw [gt_some _ _ _ (pws_at k hlt)] at hix
          have c1 := A1.cell j (by rw [pws_len 255 (by omega)]; exact hj2)
          rw [gt_some _ _ _ (pws_at j hj2)] at c1
          have hp := pw_lt k
          have hq := pw_lt j
          have c2 : ∃ u, wr.cell? ⟨g, pw k, none⟩ = some u := ⟨_, A2.cell (pw k) (by rw [bx_len]; exact hp)⟩
          obtain ⟨u2, c2⟩ := c2
          have f2 := A2.open (pw k)
          have S2 := hid (A2.stored (pw k) (bi (pw j)))
          have S1 := hid (A1.far (g' := g) (k := pw k) (.int .u8 (bi (pw j) : Nat)) (by omega))
          have S0 := hid (A0.far (g' := g) (k := pw k) (.int .u8 (bi (pw j) : Nat)) (by omega))
          have SB := hid (hB.setCell (p := ⟨g, pw k, none⟩) (by simp; omega) (.int .u8 (bi (pw j) : Nat)))
          clear A0 A1 A2 hB
          generalize pw k = x at *
          generalize pw j = y at *
          go_wp2_with fail
          refine (boi y hq _).mono ?_
          rintro e w' ⟨rfl, rfl⟩
          go_wp2_with fail
          exact ⟨⟨k + 1, _, _, by omega, by go_num, rfl, rfl, S0.out, S1.out, by rw [X.out]; exact S2.out, SB.out⟩, by simp [intOf]; omega⟩
        · have hk8 : k = 255 := by omega
          subst hk8
          rw [bx_end] at A2
          have hsz : (Try.prog.info? 144).map (·.size) = some (arr boxL).size := by rw [arr_size, boxL_len]; kernel_rfl
          have SR := A0.row (l' := boxL)
          have SB := below_row hB (Nat.le_refl _) (arr boxL)
          have ho : (arr (zs 256)).size = (arr boxL).size := by rw [arr_size, arr_size, zs_len, boxL_len]
          have A2 := hid A2
          have A0 := hid A0
          have SR := hid SR
          have SB := hid SB
          have ho := hid ho
          have hsz := hid hsz
          clear A1 hB
          go_wp2_with (first | refine wpList_load_row rfl 144 _ rfl g rfl 144 (arr boxL) _ _ A2.out Try.underlying144 rfl hsz.out ?_ | refine wpList_store_row rfl 144 _ _ rfl w.heap.size (arr boxL) rfl rfl 144 _ A0.out hsz.out ho.out (arr_one _) ?_)
          exact bodyPost_ret (v := .agg (arr boxL)) (results_cell_row rfl _ _ w.heap.size 144 _ _ _ rfl SR.out Try.underlying144 rfl hsz.out) rfl ⟨rfl, SB.out⟩
end Go.Proofs.Ytckgjghpfjinfak.W

namespace Go.Proofs.Ytckgjghpfjinfak.W
open Go.ChangeShapes Go.WideShapes Go.ChangeAt Go.RowKit
open Go.Proofs.Ytckgjghpfjinfak.M

/-- The box, and the words behind it. -/
def cph (F : Nat → Nat) (m : Nat) : List Nat := boxL ++ rowTo 176 F m
theorem cph_len (F : Nat → Nat) (m : Nat) : (cph F m).length = 432 := by rw [cph, List.length_append, boxL_len, rowTo_len]
theorem cph_box (F : Nat → Nat) (m a : Nat) (ha : a < 256) : gt (cph F m) a = sbx a := by
  rw [cph, gt_append _ _ _ (by rw [boxL_len]; exact ha), gt_some _ _ _ (boxL_at a ha)]
theorem cph_word (F : Nat → Nat) (m j : Nat) : gt (cph F m) (256 + j) = gt (rowTo 176 F m) j := by
  have h := gt_append2 boxL (rowTo 176 F m) j
  rw [boxL_len] at h
  exact h
set_option maxRecDepth 100000 in
theorem cip_built : Try.prog.built 148 [(0, .agg (arr boxL))] = some (arr (boxL ++ zs 176)) := by kernel_rfl
theorem cip_eq {x : List (Nat × Value)} (h : x = [(0, .agg (arr boxL))]) : Try.prog.built 148 x = some (arr (boxL ++ zs 176)) := by rw [h]; exact cip_built
theorem build_eq {P : Program} {ops : Array Oper} {rest : List Oper} {o : Oper} {a : Act} {w : World} {Q : Exit → Act → World → Prop} (hg : o.guard = none) (t : TypeId) (parts : Array (Nat × Operand)) (ho : o.op = .build t parts) (cells : Array Value)
    (hb : P.built t (parts.map fun (i, x) => (i, a.eval x)).toList = some cells) (h : wpList P ops Q rest (a.put o.dst (.agg cells)) w) : wpList P ops Q (o :: rest) a w := by
  refine wpList_build hg t parts ho (by rw [hb]; rfl) ?_
  rw [hb]
  exact h
theorem cip_start (F : Nat → Nat) : boxL ++ zs 176 = cph F 0 := by rw [cph, rowTo_zero]
/-- Word i of all words. -/
theorem idx_all (l : List Nat) (i : Nat) (hi : i < 44) (w : World) : (Instr.index 150 (.agg (arr l)) (.int .i64 (i : Int))).run Try.prog w = .ok (.agg (arr (sub l (4 * i) 4))) w := by
  have hs : ∀ w : World, (sizeOf 149).run Try.prog w = .ok 4 w := fun _ => by kernel_rfl
  have hag : ∀ w : World, (isAgg 149).run Try.prog w = .ok true w := fun _ => by kernel_rfl
  have e : (arr l).extract (i * 4) (i * 4 + 4) = arr (sub l (4 * i) 4) := by
    apply Array.ext'
    rw [Array.toList_extract]
    unfold arr sub
    simp [List.extract, Nat.mul_comm, List.map_take, List.map_drop]
  simp [Instr.index, run_underlying Try.underlying150, asIntOf, part, hs, hag, e, go_sem]
  intro h
  omega
theorem cph_copy (F : Nat → Nat) (n : Nat) (hn : n < 44) : ((arr (cph F (4 * n))).toList.take (256 + 4 * n) ++ (sub (rowTo 176 F 176) (4 * n) 4).map bv ++ (arr (cph F (4 * n))).toList.drop (256 + 4 * n + 4)).toArray = arr (cph F (4 * n + 4)) := by
  unfold arr
  rw [List.toList_toArray, ← List.map_take, ← List.map_drop, ← List.map_append, ← List.map_append]
  congr 1
  congr 1
  have hl := cph_len F (4 * n)
  have hs := sub_len (rowTo 176 F 176) (4 * n) 4 (by rw [rowTo_len]; omega)
  apply List.ext_getElem?
  intro i
  have key : ∀ m j, (cph F m)[j]? = if j < 256 then some (sbx j) else if j < 432 then some (if j - 256 < m then F (j - 256) else 0) else none := fun m j => by
    unfold cph
    by_cases h1 : j < 256
    · rw [if_pos h1, List.getElem?_append_left (by rw [boxL_len]; exact h1), boxL_at j h1]
    · rw [if_neg h1, List.getElem?_append_right (by rw [boxL_len]; omega), boxL_len]
      by_cases h2 : j < 432
      · rw [if_pos h2, rowTo_get _ _ _ _ (by omega)]
      · rw [if_neg h2, List.getElem?_eq_none (by rw [rowTo_len]; omega)]
  have e1 : ((cph F (4 * n)).take (256 + 4 * n)).length = 256 + 4 * n := by rw [List.length_take, hl]; omega
  rw [key (4 * n + 4) i, List.append_assoc]
  by_cases c1 : i < 256 + 4 * n
  · rw [List.getElem?_append_left (by rw [e1]; exact c1), List.getElem?_take, if_pos c1, key]
    by_cases h1 : i < 256
    · rw [if_pos h1, if_pos h1]
    · rw [if_neg h1, if_neg h1, if_pos (by omega), if_pos (by omega), if_pos (by omega), if_pos (by omega)]
  · rw [List.getElem?_append_right (by rw [e1]; omega), e1, if_neg (by omega)]
    by_cases c2 : i < 256 + 4 * n + 4
    · rw [List.getElem?_append_left (by rw [hs]; omega), if_pos (by omega), if_pos (by omega)]
      unfold sub
      rw [List.getElem?_take, if_pos (by omega), List.getElem?_drop, rowTo_get _ _ _ _ (by omega), if_pos (by omega), show 4 * n + (i - (256 + 4 * n)) = i - 256 by omega]
    · rw [List.getElem?_append_right (by rw [hs]; omega), hs, List.getElem?_drop, key, show 256 + 4 * n + 4 + (i - (256 + 4 * n) - 4) = i by omega, if_neg (by omega)]
      by_cases h2 : i < 432
      · rw [if_pos h2, if_pos h2, if_neg (by omega), if_neg (by omega)]
      · rw [if_neg h2, if_neg h2]
end Go.Proofs.Ytckgjghpfjinfak.W

namespace Go.Proofs.Ytckgjghpfjinfak.W
open Go.ChangeShapes Go.WideShapes Go.ChangeAt Go.RowKit
open Go.Proofs.Ytckgjghpfjinfak.M

theorem key_size (l : List Nat) (hl : l.length = 16) : (Try.prog.info? 91).map (·.size) = some (arr l).size := by rw [arr_size, hl]; kernel_rfl
/-- Where round key d lies. -/
theorem idx_rk (g o d : Nat) (hd : d < 11) (w : World) : (Instr.indexAt 146 (.pointer (some ⟨g, o, none⟩)) (.int .i64 (d : Int))).run Try.prog w = .ok (.pointer (some ⟨g, o + 16 * d, none⟩)) w := by
  have hs : ∀ w : World, (sizeOf (Try.prog.elem 146)).run Try.prog w = .ok 16 w := fun _ => by kernel_rfl
  have hl : Try.prog.arrayLen 146 = 11 := by kernel_rfl
  rw [run_indexAt_array (P := Try.prog) w 146 _ .i64 (d : Int) (by kernel_rfl), hl, if_pos (by omega), hs]
  simp [Result.andThen, Addr.add_lit, Nat.mul_comm]
theorem cut_rk (g o e : Nat) (he : e < 16) (w : World) : (Instr.sliceAt 127 (.pointer (some ⟨g, o, none⟩)) (some (.int .i64 (e : Int))) none none).run Try.prog w = .ok (.slice (some ⟨g, o + e, none⟩) (16 - e) (16 - e)) w := by
  have hs : ∀ w : World, (sizeOf (Try.prog.elem 127)).run Try.prog w = .ok 1 w := fun _ => by kernel_rfl
  have hl : Try.prog.arrayLen 127 = 16 := by kernel_rfl
  rw [run_sliceAt_array_l (P := Try.prog) w 127 _ (by kernel_rfl) .i64 (e : Int) (by omega) (by rw [hl]; omega), hs]
  have e3 : ¬ (16 = e) := by omega
  simp [Result.andThen, slicedAt, e3, Addr.add_lit, hl]
theorem cut_word (g : Nat) (w : World) : (Instr.sliceAt 149 (.pointer (some ⟨g, 0, none⟩)) none none none).run Try.prog w = .ok (.slice (some ⟨g, 0, none⟩) 4 4) w := by
  have hs : ∀ w : World, (sizeOf (Try.prog.elem 149)).run Try.prog w = .ok 1 w := fun _ => by kernel_rfl
  have hl : Try.prog.arrayLen 149 = 4 := by kernel_rfl
  rw [run_sliceAt_array_all (P := Try.prog) w 149 _ (by kernel_rfl), hs]
  simp [Result.andThen, slicedAt, Addr.add_lit, hl]

set_option maxHeartbeats 2000000 in
set_option maxRecDepth 100000 in
theorem cipof (key : List Nat) (w : World) (hk : key.length = 16) (y : Byt key) :
    Calls Try.prog 91 #[.agg (arr key)] w fun e w' => ∃ g, e = .returned (.pointer (some ⟨g, 0, none⟩)) ∧ Ar w' g 148 (cph (kf key) 176) ∧ w.heap.size ≤ g ∧ Below w.heap.size w w' := by
  have HK := hid hk
  have K0 := Ar.new w 91 key
  have B0 := below_alloc1 w (.cells (arr key) 91)
  clear hk
  go_enter Try.func91, Try.ntmps91
  go_wp2_with fail
  refine (mkbox _).mono ?_
  rintro e wm ⟨rfl, hM⟩
  have K1 := K0.below hM
  have B1 := B0.trans (hM.mono (by simp))
  clear K0 B0 hM
  go_wp2_with (refine build_eq rfl 148 _ rfl (arr (boxL ++ zs 176)) (cip_eq (by simp [Act.eval])) ?_)
  have C1 := Ar.new wm 148 (boxL ++ zs 176)
  have K2 := K1.alloc (.cells (arr (boxL ++ zs 176)) 148)
  have B2 := B1.alloc B1.size (.cells (arr (boxL ++ zs 176)) 148)
  have hgz := B1.size
  clear K1 B1
  generalize wm.alloc (.cells (arr (boxL ++ zs 176)) 148) = W at *
  rw [cip_start (kf key)] at C1
  have KR := hid (K2.range 0 16)
  have KE := hid (show sub key 0 16 = key by unfold sub; rw [List.drop_zero, List.take_of_length_le (by rw [HK.out]; omega)])
  have KS := hid (key_size key HK.out)
  have hX := hid (fun a (ha : a < 256) => show W.cell? ⟨wm.heap.size, a, none⟩ = some (.int .u8 (sbx a : Nat)) by rw [C1.cell a (by rw [cph_len]; omega), cph_box _ _ _ ha])
  generalize wm.heap.size = g at *
  refine wp_region_held_drew (S := fun w' => Below W.heap.size W w') (by kernel_rfl) ((Below.refl _ _).drew) (fun hH => ?_)
  refine wpAnyH_take (i := 0) (v := .agg (arr key)) (by simp only [List.getElem?_toArray, List.getElem?_cons_zero]; rfl) (by kernel_rfl) (by kernel_rfl) (by kernel_rfl) (by intro _ _ _ h; exact h) (yieldsIf_load_mid (by rfl) _ _ rfl w.heap.size 0 rfl (key.map bv) _ (fun w hS => by have q := KR.out; rw [KE.out] at q; exact rangeAt.below q hS) Try.underlying91 rfl (by rw [List.length_map, ← arr_size]; exact KS.out)) hH ?_
  simp only [Act.put, List.setIfInBounds_toArray, List.set_cons_zero, List.set_cons_succ]
  refine wpAnyH_take (i := 1) (v := .pointer (some ⟨g, 0, none⟩)) (by simp only [List.getElem?_toArray, List.getElem?_cons_succ, List.getElem?_cons_zero]; rfl) (by kernel_rfl) (by kernel_rfl) (by kernel_rfl) (by intro _ _ _ h; exact h) (Or.inl ⟨by rfl, fun w _ => by go_simp⟩) hH ?_
  simp only [Act.put, List.setIfInBounds_toArray, List.set_cons_zero, List.set_cons_succ]
  refine wpAnyH_take (i := 2) (v := .pointer (some ⟨g, 0, none⟩)) (by simp only [List.getElem?_toArray, List.getElem?_cons_succ, List.getElem?_cons_zero]; rfl) (by kernel_rfl) (by kernel_rfl) (by kernel_rfl) (by intro _ _ _ h; exact h) (Or.inl ⟨by rfl, fun w _ => by go_simp⟩) hH ?_
  simp only [Act.put, List.setIfInBounds_toArray, List.set_cons_zero, List.set_cons_succ]
  refine wpAnyH_take (i := 3) (v := .pointer (some ⟨g, 0, none⟩)) (by simp only [List.getElem?_toArray, List.getElem?_cons_succ, List.getElem?_cons_zero]; rfl) (by kernel_rfl) (by kernel_rfl) (by kernel_rfl) (by intro _ _ _ h; exact h) (Or.inl ⟨by rfl, fun w _ => by go_simp⟩) hH ?_
  simp only [Act.put, List.setIfInBounds_toArray, List.set_cons_zero, List.set_cons_succ]
  refine wpAnyH_take (i := 5) (v := .int .i64 0) (by simp only [List.getElem?_toArray, List.getElem?_cons_succ, List.getElem?_cons_zero]; rfl) (by kernel_rfl) (by kernel_rfl) (by kernel_rfl) (by intro _ _ _ h; exact h) (Or.inl ⟨by rfl, fun w _ => by go_simp⟩) hH ?_
  simp only [Act.put, List.setIfInBounds_toArray, List.set_cons_zero, List.set_cons_succ]
  generalize W.drew = x1 at hH ⊢
  refine wpAnyH_ready (rs := [4]) (by kernel_rfl) (by simp) ?_
  refine AllReadyH.cons (by simp only [List.getElem?_toArray, List.getElem?_cons_succ, List.getElem?_cons_zero]; rfl) (fun K hK => ?_) AllReadyH.nil
  go_simp
  refine (expk key g _ HK.out y (fun a ha => cell_kept hH (hX.out a ha))).mono ?_
  rintro e x2 ⟨rfl, hM⟩
  have hH2 := hH.trans (hM.mono hH.size)
  refine hK.out _ _ hH2 (fun _ => ?_)
  clear hK K
  have C2 := C1.below hH2
  have B3 := B2.trans (hH2.mono B2.size)
  clear C1 B2 K2 KR KE KS hX hH hM hH2
  generalize hF : kf key = F at *
  have HF := hid hF
  clear hF
  refine wpAnyH_done (by kernel_rfl) ?_ _
  go_wp2_with fail
  go_loopw [4, 5, 14] (fun s4 s5 s14 ws => ∃ n : Nat, ∃ u4 u5 : Value, n ≤ 44 ∧ s14 = .int .i64 n ∧ s4 = u4 ∧ s5 = u5 ∧ Ar ws g 148 (cph F (4 * n)) ∧ Below w.heap.size w ws) (fun _ _ s14 _ => 44 - (intOf s14).toNat)
  case atStart => exact ⟨0, _, _, by omega, rfl, rfl, rfl, C2, B3⟩
  case round =>
    obtain ⟨n, v4, v5, hn, rfl, rfl, rfl, C, B⟩ := hrel
    clear C2 B3
    by_cases hlt : n < 44
    · have n0 : (0 : Int) ≤ (n : Int) := by omega
      have n1 : (n : Int) < 44 := by omega
      obtain ⟨d, hd⟩ : ∃ d, d = n / 4 := ⟨_, rfl⟩
      obtain ⟨r, hr⟩ : ∃ r, r = n % 4 := ⟨_, rfl⟩
      obtain ⟨e, he⟩ : ∃ e, e = 4 * r := ⟨_, rfl⟩
      have IX := idx_all (rowTo 176 F 176) n hlt
      have sl := sub_len (rowTo 176 F 176) (4 * n) 4 (by rw [rowTo_len]; omega)
      have Z4 := hid (word_size (sub (rowTo 176 F 176) (4 * n) 4) sl)
      have T1 := Ar.new wr 149 (sub (rowTo 176 F 176) (4 * n) 4)
      have C1 := C.alloc (.cells (arr (sub (rowTo 176 F 176) (4 * n) 4)) 149)
      have B1 := B.alloc B.size (.cells (arr (sub (rowTo 176 F 176) (4 * n) 4)) 149)
      have hgw := C.lt
      have I1 := idx_rk g 256 d (by omega)
      have I2 := cut_rk g (256 + 16 * d) e (by omega)
      have I3 := cut_word wr.heap.size
      rw [show 256 + 16 * d + e = 256 + 4 * n by omega] at I2
      have e1 : (n : Int) / 4 = (d : Int) := by omega
      have e2 : (n : Int).tdiv 4 = (d : Int) := by rw [Int.tdiv_eq_ediv_of_nonneg (by omega)]; omega
      have e3 : (n : Int) % 4 = (r : Int) := by omega
      have e4 : (n : Int).tmod 4 = (r : Int) := by rw [Int.tmod_eq_emod_of_nonneg (by omega)]; omega
      have e5 : 4 * (r : Int) = (e : Int) := by omega
      have v1 : IntKind.i64.wrap (d : Int) = (d : Int) := by rw [IntKind.wrap_i64]; omega
      have v2 : IntKind.i64.wrap (r : Int) = (r : Int) := by rw [IntKind.wrap_i64]; omega
      have v3 : IntKind.i64.wrap (e : Int) = (e : Int) := by rw [IntKind.wrap_i64]; omega
      have SL := hid sl
      have CC := hid (cph_copy F n hlt)
      have he2 : e ≤ 12 := by omega
      clear C B sl hd hr he
      go_wp2_with (refine wpList_store_row rfl 149 _ _ rfl wr.heap.size (arr (sub (rowTo 176 F 176) (4 * n) 4)) rfl rfl 149 _ (heap_alloc_new wr _) Z4.out (by rw [arr_size, SL.out]; rfl) (arr_one _) ?_)
      rw [World.setRow_alloc_new]
      generalize wr.alloc (.cells (arr (sub (rowTo 176 F 176) (4 * n) 4)) 149) = y1 at *
      generalize wr.heap.size = gw at *
      obtain ⟨y2, hcp, C2, B2⟩ : ∃ y2, (Builtin.copy_ #[22, 22] 3 #[.slice (some ⟨g, 256 + 4 * n, none⟩) (16 - e) (16 - e), .slice (some ⟨gw, 0, none⟩) 4 4]).run Try.prog y1.drew = .ok (.int .i64 4) y2 ∧ Ar y2 g 148 (cph F (4 * n + 4)) ∧ Below w.heap.size w y2 := by
        have hl : ((sub (rowTo 176 F 176) (4 * n) 4).map bv).length = 4 := by rw [List.length_map, SL.out]
        have hr := run_copy_row (P := Try.prog) y1.drew 22 22 3 5 g (256 + 4 * n) (16 - e) (16 - e) ⟨gw, 0, none⟩ 4 4 _ 148 ((sub (rowTo 176 F 176) (4 * n) 4).map bv) Try.underlying22 (by kernel_rfl) C1.drew (by rw [hl]; show 4 = min 4 (16 - e); omega)
          (fun j u hj => by
            have q := T1.drew.range 0 4 j u (by unfold sub; rw [List.drop_zero, List.take_of_length_le (by have := SL.out; unfold sub at this; rw [this]; omega)]; exact hj)
            rw [Addr.add_lit]
            exact q)
          (by rw [hl, arr_size, cph_len]; omega) (by intro u hu; obtain ⟨x, _, rfl⟩ := List.mem_map.1 hu; rfl)
        rw [hl, CC.out] at hr
        exact ⟨_, hr, C1.drew.row, below_row B1.drew hgz _⟩
      clear C1 B1 T1 CC
      refine wp_region_still_tail 11 (by kernel_rfl) (by kernel_rfl) ?_
      change wpStill _ _ (World.drew _) (fun a' => wpList _ _ _ _ a' (World.drew _)) _ _
      simp only [List.take_succ_cons, List.take_zero, List.drop_succ_cons, List.drop_zero]
      repeat still_step
      refine wpStill_nil ?_
      go_wp2_with fail
      exact ⟨⟨n + 1, _, _, hlt, num_succ n, rfl, rfl, by rw [show 4 * (n + 1) = 4 * n + 4 by omega]; exact C2, B2⟩, meas 44 n hlt⟩
    · have hn44 : n = 44 := by omega
      subst hn44
      rw [show 4 * 44 = 176 from rfl, ← HF.out] at C
      go_wp2
      go_ret
      exact ⟨g, rfl, C, hgz, B⟩
end Go.Proofs.Ytckgjghpfjinfak.W

namespace Go.Proofs.Ytckgjghpfjinfak.W
open Go.ChangeShapes Go.WideShapes Go.ChangeAt Go.RowKit
open Go.Proofs.Ytckgjghpfjinfak.M

set_option maxHeartbeats 1000000 in
set_option maxRecDepth 100000 in
theorem subm (gb gx : Nat) (l : List Nat) (w : World) (hl : l.length = 16) (y : Byt l) (hA : Ar w gb 127 l) (hX : ∀ a, a < 256 → w.cell? ⟨gx, a, none⟩ = some (.int .u8 (sbx a : Nat))) (hne : gx ≠ gb) :
    Calls Try.prog 104 #[.pointer (some ⟨gb, 0, none⟩), .pointer (some ⟨gx, 0, none⟩)] w fun e w' => e = .returned (.tuple #[]) ∧ Ar w' gb 127 (sbl l) ∧ w.grownBy w' (some gb) := by
  have hs : (sbl l).length = l.length := sbl_len l
  go_enter Try.func104, Try.ntmps104
  go_wp2
  go_loopw [4, 5, 7] (fun i p j wr => ∃ k : Nat, ∃ u v : Value, k ≤ 16 ∧ j = .int .i64 k ∧ i = u ∧ p = v ∧ Ar wr gb 127 (upd (sbl l) l k) ∧ w.grownBy wr (some gb)) (fun _ _ j _ => 16 - (intOf j).toNat)
  case atStart => exact ⟨0, _, _, by omega, rfl, rfl, rfl, by rw [upd_zero]; exact hA, World.grownBy.refl _ _⟩
  case round =>
    obtain ⟨k, u, v, hk, rfl, rfl, rfl, A, hG⟩ := hrel
    by_cases hlt : k < 16
    · have c1 := A.cell k (by rw [upd_len _ _ hs]; omega)
      rw [upd_gt _ _ hs k k (Nat.le_refl _) (by omega)] at c1
      have f1 := A.open k
      have hx := gt_byt l y k
      have c2 := grown_cell? hG (hX _ hx) hne
      have S := A.stored k (sbx (gt l k))
      have e : gt (sbl l) k = sbx (gt l k) := by rw [gt_eq l k (by omega), gt_eq (sbl l) k (by omega)]; simp [sbl]
      rw [← e, upd_set _ _ hs k (by omega), e] at S
      have SG := grown_cell hG k (.int .u8 (sbx (gt l k) : Nat))
      have hs2 := sbx_lt _ hx
      clear A hG hX e hA
      replace S := hid S
      replace SG := hid SG
      replace hs := hid hs
      have k0 : (0 : Int) ≤ (k : Int) := by omega
      have k1 : (k : Int) < 16 := by omega
      generalize gt l k = x at *
      generalize sbx x = z at *
      go_wp2
      go_quiet (fail)
      go_wp2
      go_region
      go_wp2
      exact ⟨⟨k + 1, _, _, by omega, by go_num, rfl, rfl, S.out.drewN (nq + 1), grown_drewN SG.out (nq + 1)⟩, by simp [intOf]; omega⟩
    · have hk8 : k = 16 := by omega
      subst hk8
      rw [upd_end _ _ hs 16 (by omega)] at A
      go_wp2
      go_end0
      exact ⟨rfl, A, hG⟩
end Go.Proofs.Ytckgjghpfjinfak.W

namespace Go.Proofs.Ytckgjghpfjinfak.W
open Go.ChangeShapes Go.WideShapes Go.ChangeAt Go.RowKit
open Go.Proofs.Ytckgjghpfjinfak.M

set_option maxHeartbeats 1000000 in
set_option maxRecDepth 100000 in
theorem shm (gb : Nat) (l : List Nat) (w : World) (hl : l.length = 16) (hA : Ar w gb 127 l) :
    Calls Try.prog 105 #[.pointer (some ⟨gb, 0, none⟩)] w fun e w' => e = .returned (.tuple #[]) ∧ Ar w' gb 127 (shl l) ∧ w.grownBy w' (some gb) := by
  have hs : (shl l).length = l.length := by rw [shl_len, hl]
  have hgl := hA.lt
  have Z := hid (blk_size l hl)
  go_enter Try.func105, Try.ntmps105
  go_wp2_with (first | refine wpList_load_row rfl 127 _ rfl gb rfl 127 (arr l) _ _ hA Try.underlying127 rfl Z.out ?_ | refine wpList_store_row rfl 127 _ _ rfl w.heap.size (arr l) rfl rfl 127 _ (heap_alloc_new w _) Z.out (by rw [arr_size, hl]; rfl) (arr_one _) ?_)
  rw [World.setRow_alloc_new]
  have A0 := hA.alloc (.cells (arr l) 127)
  have N0 := Ar.new w 127 l
  have G0 := World.grownBy_alloc w (.cells (arr l) 127) (some gb)
  clear hA
  go_loopw [3, 4, 8, 11] (fun i p j jj wr => ∃ c : Nat, ∃ u v x : Value, c ≤ 4 ∧ j = .int .i64 c ∧ i = u ∧ p = v ∧ jj = x ∧ Ar wr gb 127 (upd (shl l) l (4 * c)) ∧ Ar wr w.heap.size 127 l ∧ w.grownBy wr (some gb)) (fun _ _ j _ _ => 4 - (intOf j).toNat)
  case atStart => exact ⟨0, _, _, _, by omega, rfl, rfl, rfl, rfl, by rw [Nat.mul_zero, upd_zero]; exact A0, N0, G0⟩
  case round =>
    obtain ⟨c, u, v, x, hc, rfl, rfl, rfl, rfl, A, N, G⟩ := hrel
    clear A0 N0 G0
    by_cases hlt : c < 4
    · go_wp2
      go_loopw [4, 11] (fun p jj ws => ∃ r : Nat, ∃ v : Value, r ≤ 4 ∧ jj = .int .i64 r ∧ p = v ∧ Ar ws gb 127 (upd (shl l) l (4 * c + r)) ∧ Ar ws w.heap.size 127 l ∧ w.grownBy ws (some gb)) (fun _ jj _ => 4 - (intOf jj).toNat)
      case atStart => exact ⟨0, _, by omega, rfl, rfl, A, N, G⟩
      case round =>
        obtain ⟨r, v, hr, rfl, rfl, A2, N2, G2⟩ := hrel
        clear A N G
        by_cases hlr : r < 4
        · have c1 := N2.cell (4 * ((c + r) % 4) + r) (by omega)
          have c2 : ∃ u, wr.cell? ⟨gb, 4 * c + r, none⟩ = some u := ⟨_, A2.cell (4 * c + r) (by rw [upd_len _ _ hs]; omega)⟩
          obtain ⟨u2, c2⟩ := c2
          have f2 := A2.open (4 * c + r)
          have S := A2.stored (4 * c + r) (gt l (4 * ((c + r) % 4) + r))
          have e : gt (shl l) (4 * c + r) = gt l (4 * ((c + r) % 4) + r) := by
            rw [gt_eq (shl l) _ (by omega)]
            simp only [shl, List.getElem_map, List.getElem_range]
            unfold gt
            rw [show (4 * c + r + 4 * ((4 * c + r) % 4)) % 16 = 4 * ((c + r) % 4) + r by omega]
          rw [← e, upd_set _ _ hs _ (by omega), e] at S
          have SG := grown_cell G2 (4 * c + r) (.int .u8 (gt l (4 * ((c + r) % 4) + r) : Nat))
          have SN := N2.far (g' := gb) (k := 4 * c + r) (.int .u8 (gt l (4 * ((c + r) % 4) + r) : Nat)) (by omega)
          clear A2 N2 G2 e
          replace S := hid S
          replace SG := hid SG
          replace SN := hid SN
          replace hs := hid hs
          obtain ⟨q, hq⟩ : ∃ q, q = 4 * ((c + r) % 4) + r := ⟨_, rfl⟩
          rw [← hq] at c1 S SG SN
          obtain ⟨t, ht⟩ : ∃ t, t = 4 * c + r := ⟨_, rfl⟩
          have e1 : 4 * (((c : Int) + r) % 4) + r = (q : Int) := by omega
          have e2 : 4 * (c : Int) + r = (t : Int) := by omega
          have q1 : (q : Int) < 16 := by omega
          have t1 : (t : Int) < 16 := by omega
          have q0 : (0 : Int) ≤ (q : Int) := by omega
          have t0 : (0 : Int) ≤ (t : Int) := by omega
          have r0 : (0 : Int) ≤ (r : Int) := by omega
          have r1 : (r : Int) < 4 := by omega
          have c0 : (0 : Int) ≤ (c : Int) := by omega
          have c1' : (c : Int) < 4 := by omega
          have ht' := hid ht
          rw [← ht] at c2 f2 S SG SN
          clear hq ht
          generalize gt l q = z at *
          go_wp2
          go_region
          go_wp2
          exact ⟨⟨r + 1, _, by omega, by go_num, rfl, by rw [show 4 * c + (r + 1) = t + 1 by have := ht'.out; omega]; exact S.out.drew, SN.out.drew, grown_drew SG.out⟩, by simp [intOf]; omega⟩
        · have hr4 : r = 4 := by omega
          subst hr4
          go_wp2
          exact ⟨⟨c + 1, _, _, _, by omega, by go_num, rfl, rfl, rfl, A2, N2, G2⟩, by simp [intOf]; omega⟩
    · have hc4 : c = 4 := by omega
      subst hc4
      rw [upd_end _ _ hs (4 * 4) (by omega)] at A
      go_wp2
      go_end0
      exact ⟨rfl, A, G⟩
end Go.Proofs.Ytckgjghpfjinfak.W

namespace Go.Proofs.Ytckgjghpfjinfak.W
open Go.ChangeShapes Go.WideShapes Go.ChangeAt Go.RowKit
open Go.Proofs.Ytckgjghpfjinfak.M

set_option maxHeartbeats 1000000 in
set_option maxRecDepth 100000 in
theorem mxm (gb : Nat) (l : List Nat) (w : World) (hl : l.length = 16) (y : Byt l) (hA : Ar w gb 127 l) :
    Calls Try.prog 106 #[.pointer (some ⟨gb, 0, none⟩)] w fun e w' => e = .returned (.tuple #[]) ∧ Ar w' gb 127 (mxl l) ∧ w.grownBy w' (some gb) := by
  have hs : (mxl l).length = l.length := by rw [mxl_len, hl]
  have hgl := hA.lt
  have Z := hid (blk_size l hl)
  go_enter Try.func106, Try.ntmps106
  go_wp2_with (first | refine wpList_load_row rfl 127 _ rfl gb rfl 127 (arr l) _ _ hA Try.underlying127 rfl Z.out ?_ | refine wpList_store_row rfl 127 _ _ rfl w.heap.size (arr l) rfl rfl 127 _ (heap_alloc_new w _) Z.out (by rw [arr_size, hl]; rfl) (arr_one _) ?_)
  rw [World.setRow_alloc_new]
  have A0 := hA.alloc (.cells (arr l) 127)
  have N0 := Ar.new w 127 l
  have G0 := World.grownBy_alloc w (.cells (arr l) 127) (some gb)
  clear hA
  go_loopw [3, 4, 5, 6, 10, 21] (fun i q p n j jj wr => ∃ c : Nat, ∃ u v x y z : Value, c ≤ 4 ∧ j = .int .i64 c ∧ i = u ∧ q = y ∧ p = v ∧ n = z ∧ jj = x ∧ Ar wr gb 127 (upd (mxl l) l (4 * c)) ∧ Ar wr w.heap.size 127 l ∧ w.grownBy wr (some gb)) (fun _ _ _ _ j _ _ => 4 - (intOf j).toNat)
  case atStart => exact ⟨0, _, _, _, _, _, by omega, rfl, rfl, rfl, rfl, rfl, rfl, by rw [Nat.mul_zero, upd_zero]; exact A0, N0, G0⟩
  case round =>
    obtain ⟨c, u, v, x, y1, z1, hc, rfl, rfl, rfl, rfl, rfl, rfl, A, N, G⟩ := hrel
    clear A0 N0 G0
    by_cases hlt : c < 4
    · obtain ⟨w1, rfl⟩ : ∃ w1, w1 = wr := ⟨_, rfl⟩
      have c0 : (0 : Int) ≤ (c : Int) := by omega
      have c1 : (c : Int) < 4 := by omega
      have HS : ∀ w' : World, (Instr.sliceAt 127 (.pointer (some ⟨w.heap.size, 0, none⟩)) (some (.int .i64 (4 * (c : Int)))) (some (.int .i64 (4 * ((c : Int) + 1)))) none).run Try.prog w' = .ok (.slice (some ⟨w.heap.size, 4 * c, none⟩) 4 (16 - 4 * c)) w' := fun w' => by
        have hs : ∀ w : World, (sizeOf (Try.prog.elem 127)).run Try.prog w = .ok 1 w := fun _ => by kernel_rfl
        rw [run_sliceAt_array_lh (P := Try.prog) w' 127 _ (by kernel_rfl) .i64 .i64 (4 * (c : Int)) (4 * ((c : Int) + 1)) (by omega) (by omega) (by rw [show Try.prog.arrayLen 127 = 16 by kernel_rfl]; omega), hs]
        have e1 : (4 * (c : Int)).toNat = 4 * c := by omega
        have e2 : (4 * ((c : Int) + 1)).toNat = 4 * c + 4 := by omega
        have e3 : ¬ (16 = 4 * c) := by omega
        simp [Result.andThen, slicedAt, e1, e2, e3, Addr.add_lit, show Try.prog.arrayLen 127 = 16 by kernel_rfl]
      have HP := arr_at 118 5 4 Try.underlying118 (some ⟨w.heap.size, 4 * c, none⟩) 4 (16 - 4 * c) (Nat.le_refl _)
      have hcl := sub_len l (4 * c) 4 (by omega)
      have Z4 := hid (show (Try.prog.info? 118).map (·.size) = some (arr (sub l (4 * c) 4)).size by rw [arr_size, hcl]; kernel_rfl)
      have ZL := hid hcl
      have RG := hid (N.range (4 * c) 4)
      clear hcl
      go_wp2_with (first | refine load_sub rfl 118 _ rfl w.heap.size (4 * c) rfl (sub l (4 * c) 4) RG.out _ Try.underlying118 rfl Z4.out ?_ | refine wpList_store_row rfl 118 _ _ rfl w1.heap.size (arr (sub l (4 * c) 4)) rfl rfl 118 _ (heap_alloc_new w1 _) Z4.out (by rw [arr_size, ZL.out]; rfl) (arr_one _) ?_)
      rw [World.setRow_alloc_new]
      have N1 := N.alloc (.cells (arr (sub l (4 * c) 4)) 118)
      have A1 := A.alloc (.cells (arr (sub l (4 * c) 4)) 118)
      have C1 := Ar.new w1 118 (sub l (4 * c) 4)
      have G1 := grown_trans G (World.grownBy_alloc w1 (.cells (arr (sub l (4 * c) 4)) 118) (some gb))
      have hz := N.lt
      generalize w1.heap.size = g at *
      clear A N G RG HS HP Z4 Z
      go_loopw [5, 6, 21] (fun p n jj ws => ∃ r : Nat, ∃ v z : Value, r ≤ 4 ∧ jj = .int .i64 r ∧ p = v ∧ n = z ∧ Ar ws gb 127 (upd (mxl l) l (4 * c + r)) ∧ Ar ws w.heap.size 127 l ∧ Ar ws g 118 (sub l (4 * c) 4) ∧ w.grownBy ws (some gb)) (fun _ _ jj _ => 4 - (intOf jj).toNat)
      case atStart => exact ⟨0, _, _, by omega, rfl, rfl, rfl, A1, N1, C1, G1⟩
      case round =>
        obtain ⟨r, v, z, hr, rfl, rfl, rfl, A2, N2, C2, G2⟩ := hrel
        clear A1 N1 C1 G1
        by_cases hlr : r < 4
        · have hcl := ZL.out
          obtain ⟨n1, h1⟩ : ∃ n, n = (r + 1) % 4 := ⟨_, rfl⟩
          obtain ⟨n2, h2⟩ : ∃ n, n = (r + 2) % 4 := ⟨_, rfl⟩
          obtain ⟨n3, h3⟩ : ∃ n, n = (r + 3) % 4 := ⟨_, rfl⟩
          obtain ⟨t, ht⟩ : ∃ t, t = 4 * c + r := ⟨_, rfl⟩
          have d0 := C2.cell r (by omega)
          have d1 := C2.cell n1 (by omega)
          have d2 := C2.cell n2 (by omega)
          have d3 := C2.cell n3 (by omega)
          have b0 : gt (sub l (4 * c) 4) r = gt l (4 * c + r) := sub_gt _ _ _ _ (by omega)
          have b1 : gt (sub l (4 * c) 4) n1 = gt l (4 * c + n1) := sub_gt _ _ _ _ (by omega)
          have b2 : gt (sub l (4 * c) 4) n2 = gt l (4 * c + n2) := sub_gt _ _ _ _ (by omega)
          have b3 : gt (sub l (4 * c) 4) n3 = gt l (4 * c + n3) := sub_gt _ _ _ _ (by omega)
          rw [b0] at d0
          rw [b1] at d1
          rw [b2] at d2
          rw [b3] at d3
          have x0 := gt_byt l y (4 * c + r)
          have x1 := gt_byt l y (4 * c + n1)
          have x2 := gt_byt l y (4 * c + n2)
          have x3 := gt_byt l y (4 * c + n3)
          have e : gt (mxl l) t = (((xt (gt l (4 * c + r)) ^^^ xt (gt l (4 * c + n1))) ^^^ gt l (4 * c + n1)) ^^^ gt l (4 * c + n2)) ^^^ gt l (4 * c + n3) := by
            have hm := mxl_len l
            rw [gt_eq (mxl l) _ (by omega)]
            simp only [mxl, List.getElem_map, List.getElem_range, mxb]
            unfold gt
            rw [show t / 4 * 4 + (t + 0) % 4 = 4 * c + r by omega, show t / 4 * 4 + (t + 1) % 4 = 4 * c + n1 by omega, show t / 4 * 4 + (t + 2) % 4 = 4 * c + n2 by omega, show t / 4 * 4 + (t + 3) % 4 = 4 * c + n3 by omega, Nat.xor_assoc (xt _) (xt _)]
          have c2 : ∃ u, wr.cell? ⟨gb, t, none⟩ = some u := ⟨_, A2.cell t (by rw [upd_len _ _ hs]; omega)⟩
          obtain ⟨u2, c2⟩ := c2
          have f2 := A2.open t
          have S := A2.stored (4 * c + r) (gt (mxl l) (4 * c + r))
          rw [upd_set _ _ hs _ (by omega), ← ht] at S
          have SG := grown_cell G2 t (.int .u8 (gt (mxl l) t : Nat))
          have SN := N2.far (g' := gb) (k := t) (.int .u8 (gt (mxl l) t : Nat)) (by omega)
          have SC := C2.far (g' := gb) (k := t) (.int .u8 (gt (mxl l) t : Nat)) (by omega)
          have k0 := SC.cell r (by omega)
          have k2 := SC.cell n2 (by omega)
          have k3 := SC.cell n3 (by omega)
          rw [b0] at k0
          rw [b2] at k2
          rw [b3] at k3
          generalize gt l (4 * c + r) = a0 at *
          generalize gt l (4 * c + n1) = a1 at *
          generalize gt l (4 * c + n2) = a2 at *
          generalize gt l (4 * c + n3) = a3 at *
          generalize gt (mxl l) t = m at *
          have y0 := xt_lt a0
          have y1 := xt_lt a1
          have E : bits .xor .u8 (bits .xor .u8 (bits .xor .u8 (bits .xor .u8 (xt a0 : Nat) (xt a1 : Nat)) (a1 : Nat)) (a2 : Nat)) (a3 : Nat) = ((m : Nat) : Int) := by
            rw [xor8 _ _ y0 y1, xor8 _ _ (xor_lt _ _ y0 y1) x1, xor8 _ _ (xor_lt _ _ (xor_lt _ _ y0 y1) x1) x2, xor8 _ _ (xor_lt _ _ (xor_lt _ _ (xor_lt _ _ y0 y1) x1) x2) x3, e]
          clear e b0 b1 b2 b3 A2 N2 C2 G2
          replace S := hid S
          replace SG := hid SG
          replace SN := hid SN
          replace SC := hid SC
          have KP := hid (And.intro k0 (And.intro k2 k3))
          clear k0 k2 k3
          replace hs := hid hs
          have e1 : ((r : Int) + 1) % 4 = (n1 : Int) := by omega
          have e2 : ((r : Int) + 2) % 4 = (n2 : Int) := by omega
          have e3 : ((r : Int) + 3) % 4 = (n3 : Int) := by omega
          have e4 : 4 * (c : Int) + r = (t : Int) := by omega
          have q1 : (n1 : Int) < 4 := by omega
          have q2 : (n2 : Int) < 4 := by omega
          have q3 : (n3 : Int) < 4 := by omega
          have q4 : (t : Int) < 16 := by omega
          have p1 : (0 : Int) ≤ (n1 : Int) := by omega
          have p2 : (0 : Int) ≤ (n2 : Int) := by omega
          have p3 : (0 : Int) ≤ (n3 : Int) := by omega
          have p4 : (0 : Int) ≤ (t : Int) := by omega
          have r0 : (0 : Int) ≤ (r : Int) := by omega
          have r1 : (r : Int) < 4 := by omega
          have v1 : IntKind.i64.wrap ((r : Int) + 2) = (r : Int) + 2 := by rw [IntKind.wrap_i64]; omega
          have v2 : IntKind.i64.wrap ((r : Int) + 3) = (r : Int) + 3 := by rw [IntKind.wrap_i64]; omega
          have v3 : IntKind.i64.wrap (4 * (c : Int)) = 4 * (c : Int) := by rw [IntKind.wrap_i64]; omega
          have v4 : IntKind.i64.wrap (t : Int) = (t : Int) := by rw [IntKind.wrap_i64]; omega
          have v5 : ((r : Int) + 2).tmod 4 = (n2 : Int) := by rw [Int.tmod_eq_emod_of_nonneg (by omega)]; omega
          have v6 : ((r : Int) + 3).tmod 4 = (n3 : Int) := by rw [Int.tmod_eq_emod_of_nonneg (by omega)]; omega
          have v7 : IntKind.i64.wrap (n2 : Int) = (n2 : Int) := by rw [IntKind.wrap_i64]; omega
          have v8 : IntKind.i64.wrap (n3 : Int) = (n3 : Int) := by rw [IntKind.wrap_i64]; omega
          have ht' := hid ht
          clear h1 h2 h3 ht
          have KT : (wr.setCell ⟨gb, t, none⟩ (.int .u8 (m : Nat))).drew.cell? ⟨g, r, none⟩ = some (.int .u8 (a0 : Nat)) ∧ (wr.setCell ⟨gb, t, none⟩ (.int .u8 (m : Nat))).drew.cell? ⟨g, n2, none⟩ = some (.int .u8 (a2 : Nat)) ∧ (wr.setCell ⟨gb, t, none⟩ (.int .u8 (m : Nat))).drew.cell? ⟨g, n3, none⟩ = some (.int .u8 (a3 : Nat)) := KP.out
          clear KT
          go_wp2_with fail
          go_region_held3 (fun w' => w'.cell? ⟨g, r, none⟩ = some (.int .u8 (a0 : Nat)) ∧ w'.cell? ⟨g, n2, none⟩ = some (.int .u8 (a2 : Nat)) ∧ w'.cell? ⟨g, n3, none⟩ = some (.int .u8 (a3 : Nat))) (first | exact KP.out | go_keep) ((go_at_call 111; refine (tp1 _ ?_ _).mono ?_; (first | exact x0 | exact x1); rintro e w' ⟨rfl, rfl⟩))
          go_wp2
          exact ⟨⟨r + 1, _, _, by omega, by go_num, rfl, rfl, by rw [show 4 * c + (r + 1) = t + 1 by have := ht'.out; omega]; exact S.out.drew, SN.out.drew, SC.out.drew, grown_drew SG.out⟩, by simp [intOf]; omega⟩
        · have hr4 : r = 4 := by omega
          subst hr4
          go_wp2
          exact ⟨⟨c + 1, _, _, _, _, _, by omega, by go_num, rfl, rfl, rfl, rfl, rfl, A2, N2, G2⟩, by simp [intOf]; omega⟩
    · have hc4 : c = 4 := by omega
      subst hc4
      rw [upd_end _ _ hs (4 * 4) (by omega)] at A
      go_wp2
      go_end0
      exact ⟨rfl, A, G⟩
end Go.Proofs.Ytckgjghpfjinfak.W

namespace Go.Proofs.Ytckgjghpfjinfak.W
open Go.ChangeShapes Go.WideShapes Go.ChangeAt Go.RowKit
open Go.Proofs.Ytckgjghpfjinfak.M

set_option maxHeartbeats 1000000 in
set_option maxRecDepth 100000 in
theorem addm (gb : Nat) (l k : List Nat) (w : World) (hl : l.length = 16) (hk : k.length = 16) (y : Byt l) (yk : Byt k) (hA : Ar w gb 127 l) :
    Calls Try.prog 96 #[.pointer (some ⟨gb, 0, none⟩), .agg (arr k)] w fun e w' => e = .returned (.tuple #[]) ∧ Ar w' gb 127 (xl l k) ∧ w.grownBy w' (some gb) := by
  have hs : (xl l k).length = l.length := xl_len l k
  have hgl := hA.lt
  have Z := hid (blk_size k hk)
  go_enter Try.func96, Try.ntmps96
  go_wp2_with (refine wpList_load_row rfl 127 _ rfl w.heap.size rfl 127 (arr k) _ _ (heap_alloc_new w _) Try.underlying127 rfl Z.out ?_)
  go_loopw [4, 5, 7] (fun i p j wr => ∃ n : Nat, ∃ u v : Value, n ≤ 16 ∧ j = .int .i64 n ∧ i = u ∧ p = v ∧ Ar wr gb 127 (upd (xl l k) l n) ∧ w.grownBy wr (some gb)) (fun _ _ j _ => 16 - (intOf j).toNat)
  case atStart => exact ⟨0, _, _, by omega, rfl, rfl, rfl, by rw [upd_zero]; exact hA.alloc _, World.grownBy_alloc w _ _⟩
  case round =>
    obtain ⟨n, u, v, hn, rfl, rfl, rfl, A, hG⟩ := hrel
    by_cases hlt : n < 16
    · have c1 := A.cell n (by rw [upd_len _ _ hs]; omega)
      rw [upd_gt _ _ hs n n (Nat.le_refl _) (by omega)] at c1
      have f1 := A.open n
      have hix := idx_arr 127 16 Try.underlying127 k hk n hlt
      have hx := gt_byt l y n
      have hx2 := gt_byt k yk n
      have S := A.stored n (gt l n ^^^ gt k n)
      have e : gt (xl l k) n = gt l n ^^^ gt k n := by
        rw [gt_eq (xl l k) n (by omega), xl_at l k n (by omega) (by omega) (by omega), gt_eq l n (by omega), gt_eq k n (by omega)]
      rw [← e, upd_set _ _ hs n (by omega), e] at S
      have SG := grown_cell hG n (.int .u8 (gt l n ^^^ gt k n : Nat))
      have E := xor8 _ _ hx hx2
      clear A hG e hA
      replace S := hid S
      replace SG := hid SG
      replace hs := hid hs
      have k0 : (0 : Int) ≤ (n : Int) := by omega
      have k1 : (n : Int) < 16 := by omega
      generalize gt l n ^^^ gt k n = z at *
      generalize gt l n = x at *
      generalize gt k n = x2 at *
      go_wp2
      go_region
      go_wp2
      exact ⟨⟨n + 1, _, _, by omega, by go_num, rfl, rfl, S.out.drew, grown_drew SG.out⟩, by simp [intOf]; omega⟩
    · have hk8 : n = 16 := by omega
      subst hk8
      rw [upd_end _ _ hs 16 (by omega)] at A
      go_wp2
      go_end0
      exact ⟨rfl, A, hG⟩
end Go.Proofs.Ytckgjghpfjinfak.W

namespace Go.Proofs.Ytckgjghpfjinfak.W
open Go.ChangeShapes Go.WideShapes Go.ChangeAt Go.RowKit
open Go.Proofs.Ytckgjghpfjinfak.M

theorem rk_sub (F : Nat → Nat) (r : Nat) (hr : r < 11) : sub (cph F 176) (256 + 16 * r) 16 = rkl F r := by
  have l1 := sub_len (cph F 176) (256 + 16 * r) 16 (by rw [cph_len]; omega)
  apply List.ext_getElem (by rw [l1, rkl_len])
  intro i h1 h2
  have hi : i < 16 := by rw [rkl_len] at h2; exact h2
  rw [← gt_eq _ i h1, ← gt_eq _ i h2, sub_gt _ _ _ _ hi, rkl_gt _ _ _ hi, show 256 + 16 * r + i = 256 + (16 * r + i) by omega, cph_word, rowTo_gt _ _ _ _ (by omega) (Nat.le_refl _)]

theorem ar_grown {w w' : World} {g gb : Nat} {T : TypeId} {l : List Nat} (h : Ar w g T l) (hG : w.grownBy w' (some gb)) (hne : g ≠ gb) : Ar w' g T l := var_grown hG h (by intro e; exact hne (Option.some.inj e))
theorem cph_cells {w : World} {g : Nat} {T : TypeId} {F : Nat → Nat} (h : Ar w g T (cph F 176)) (a : Nat) (ha : a < 256) : w.cell? ⟨g, a, none⟩ = some (.int .u8 (sbx a : Nat)) := by
  rw [h.cell a (by rw [cph_len]; omega), cph_box _ _ _ ha]
theorem cph_rk {w : World} {g : Nat} {T : TypeId} {F : Nat → Nat} (h : Ar w g T (cph F 176)) (r : Nat) (hr : r < 11) : w.rangeAt g (256 + 16 * r) ((rkl F r).map bv) := by
  have q := h.range (256 + 16 * r) 16
  rw [rk_sub F r hr] at q
  exact q

set_option maxHeartbeats 2000000 in
set_option maxRecDepth 100000 in
theorem encr (l : List Nat) (F : Nat → Nat) (g : Nat) (w : World) (hl : l.length = 16) (y : Byt l) (hF : ∀ j, F j < 256) (hC : Ar w g 148 (cph F 176)) :
    Calls Try.prog 93 #[.pointer (some ⟨g, 0, none⟩), .agg (arr l)] w fun e w' => e = .returned (.agg (arr (enc F l))) ∧ Below w.heap.size w w' := by
  have hmf : ∀ (fn : Fn) (first cap : Array Value) (w : World), (Instr.makeFunc fn first cap).run Try.prog w = .ok (.func fn first cap) w := fun _ _ _ _ => rfl
  have HF := hid hF
  have HL := hid hl
  have hgl := hC.lt
  clear hl hF
  go_enter Try.func93, Try.ntmps93
  have X : Ar ((w.alloc (.cells (arr l) 127)).alloc (.cells #[.int .u8 0, .int .u8 0, .int .u8 0, .int .u8 0, .int .u8 0, .int .u8 0, .int .u8 0, .int .u8 0, .int .u8 0, .int .u8 0, .int .u8 0, .int .u8 0, .int .u8 0, .int .u8 0, .int .u8 0, .int .u8 0] 127)) w.heap.size 127 l := heap_alloc2_old w _ _
  have R : Ar ((w.alloc (.cells (arr l) 127)).alloc (.cells #[.int .u8 0, .int .u8 0, .int .u8 0, .int .u8 0, .int .u8 0, .int .u8 0, .int .u8 0, .int .u8 0, .int .u8 0, .int .u8 0, .int .u8 0, .int .u8 0, .int .u8 0, .int .u8 0, .int .u8 0, .int .u8 0] 127)) (w.heap.size + 1) 127 (zs 16) := heap_alloc2_new w _ _
  have B := below_alloc2 w (.cells (arr l) 127) (.cells #[.int .u8 0, .int .u8 0, .int .u8 0, .int .u8 0, .int .u8 0, .int .u8 0, .int .u8 0, .int .u8 0, .int .u8 0, .int .u8 0, .int .u8 0, .int .u8 0, .int .u8 0, .int .u8 0, .int .u8 0, .int .u8 0] 127)
  have C := (hC.alloc (.cells (arr l) 127)).alloc (.cells #[.int .u8 0, .int .u8 0, .int .u8 0, .int .u8 0, .int .u8 0, .int .u8 0, .int .u8 0, .int .u8 0, .int .u8 0, .int .u8 0, .int .u8 0, .int .u8 0, .int .u8 0, .int .u8 0, .int .u8 0, .int .u8 0] 127)
  clear hC
  have RG := hid (cph_rk C 0 (by omega))
  go_wp2_with (refine load_sub rfl 127 _ rfl g (256) rfl (rkl F (0)) RG.out _ Try.underlying127 rfl (blk_size _ (rkl_len _ _)) ?_)
  generalize (w.alloc (.cells (arr l) 127)).alloc (.cells #[.int .u8 0, .int .u8 0, .int .u8 0, .int .u8 0, .int .u8 0, .int .u8 0, .int .u8 0, .int .u8 0, .int .u8 0, .int .u8 0, .int .u8 0, .int .u8 0, .int .u8 0, .int .u8 0, .int .u8 0, .int .u8 0] 127) = W at *
  obtain ⟨gb, hgb⟩ : ∃ b, b = w.heap.size := ⟨_, rfl⟩
  rw [← hgb] at X R ⊢
  have Hgb := hid hgb
  clear hgb
  refine (addm gb l (rkl F 0) _ HL.out (rkl_len _ _) y (rkl_byt F HF.out 0) X).mono ?_
  rintro e w1 ⟨rfl, XN, hG⟩
  replace C := ar_grown C hG (by have := Hgb.out; omega)
  replace R := ar_grown R hG (by have := Hgb.out; omega)
  replace B := B.grown hG B.size (fun k e => by cases e; have := Hgb.out; omega)
  replace X := XN
  clear XN hG
  rw [show xl l (rkl F 0) = stt F l 0 from rfl] at X
  clear RG
  have XH := hid X
  have CH := hid C
  have RH := hid R
  have BH := hid B
  clear X C R B
  go_wp2_with fail
  go_loopw [9] (fun s9 ws => ∃ n r : Nat, n ≤ 9 ∧ Hid (r = n + 1) ∧ s9 = .int .i64 (r : Nat) ∧ Ar ws gb 127 (stt F l n) ∧ Ar ws g 148 (cph F 176) ∧ Ar ws (gb + 1) 127 (zs 16) ∧ Below w.heap.size w ws) (fun s9 _ => 10 - (intOf s9).toNat)
  case atStart => exact ⟨0, 1, by omega, hid rfl, rfl, XH.out, CH.out, RH.out, BH.out⟩
  case round =>
    obtain ⟨n, r, hn, Hr, rfl, X, C, R, B⟩ := hrel
    clear XH CH RH BH
    have sl := hid (stt_len F l HL.out n)
    have sb := hid (stt_byt F HF.out l y n)
    have I0 := idx_rk g 256 r (by have := Hr.out; omega)
    by_cases hlt : n < 9
    · have r1 : (r : Int) < 10 := by have := Hr.out; omega
      have r0 : (0 : Int) ≤ (r : Int) := by omega
      have SE := hid (show stt F l (n + 1) = xl (mxl (shl (sbl (stt F l n)))) (rkl F (n + 1)) by rw [stt, if_pos (by omega)])
      have XH := hid X
      have CH := hid C
      have RH := hid R
      have BH := hid B
      clear X C R B
      go_wp2_with fail
      have X := XH.out
      have C := CH.out
      have R := RH.out
      have B := BH.out
      clear XH CH RH BH
      refine (subm gb g (stt F l n) _ sl.out sb.out X (cph_cells C) (by have := Hgb.out; omega)).mono ?_
      rintro e w2 ⟨rfl, XN, hG⟩
      replace C := ar_grown C hG (by have := Hgb.out; omega)
      replace R := ar_grown R hG (by have := Hgb.out; omega)
      replace B := B.grown hG B.size (fun k e => by cases e; have := Hgb.out; omega)
      replace X := XN
      clear XN hG
      have XH := hid X
      have CH := hid C
      have RH := hid R
      have BH := hid B
      clear X C R B
      go_wp2_with fail
      have X := XH.out
      have C := CH.out
      have R := RH.out
      have B := BH.out
      clear XH CH RH BH
      refine (shm gb (sbl (stt F l n)) _ (sbl_len16 _ sl.out) X).mono ?_
      rintro e w3 ⟨rfl, XN, hG⟩
      replace C := ar_grown C hG (by have := Hgb.out; omega)
      replace R := ar_grown R hG (by have := Hgb.out; omega)
      replace B := B.grown hG B.size (fun k e => by cases e; have := Hgb.out; omega)
      replace X := XN
      clear XN hG
      have XH := hid X
      have CH := hid C
      have RH := hid R
      have BH := hid B
      clear X C R B
      go_wp2_with fail
      have X := XH.out
      have C := CH.out
      have R := RH.out
      have B := BH.out
      clear XH CH RH BH
      refine (mxm gb (shl (sbl (stt F l n))) _ (shl_len _) (shl_byt _ (sbl_byt _ sb.out)) X).mono ?_
      rintro e w4 ⟨rfl, XN, hG⟩
      replace C := ar_grown C hG (by have := Hgb.out; omega)
      replace R := ar_grown R hG (by have := Hgb.out; omega)
      replace B := B.grown hG B.size (fun k e => by cases e; have := Hgb.out; omega)
      replace X := XN
      clear XN hG
      have RG := hid (cph_rk C r (by have := Hr.out; omega))
      have XH := hid X
      have CH := hid C
      have RH := hid R
      have BH := hid B
      clear X C R B
      go_wp2_with (refine load_sub rfl 127 _ rfl g (256 + 16 * r) rfl (rkl F (r)) RG.out _ Try.underlying127 rfl (blk_size _ (rkl_len _ _)) ?_)
      have X := XH.out
      have C := CH.out
      have R := RH.out
      have B := BH.out
      clear XH CH RH BH
      refine (addm gb (mxl (shl (sbl (stt F l n)))) (rkl F r) _ (mxl_len _) (rkl_len _ _) (mxl_byt _ (shl_byt _ (sbl_byt _ sb.out))) (rkl_byt F HF.out r) X).mono ?_
      rintro e w5 ⟨rfl, XN, hG⟩
      replace C := ar_grown C hG (by have := Hgb.out; omega)
      replace R := ar_grown R hG (by have := Hgb.out; omega)
      replace B := B.grown hG B.size (fun k e => by cases e; have := Hgb.out; omega)
      replace X := XN
      clear XN hG
      clear RG
      have XH := hid X
      have CH := hid C
      have RH := hid R
      have BH := hid B
      clear X C R B
      go_wp2_with fail
      refine ⟨⟨n + 1, r + 1, by omega, hid (by rw [Hr.out]), num_succ r, ?_, CH.out, RH.out, BH.out⟩, ?_⟩
      · rw [SE.out]
        have q := XH.out
        rw [Hr.out] at q
        exact q
      · have hr := Hr.out
        simp [intOf]
        omega
    · have hn9 : n = 9 := by omega
      subst hn9
      have r1 : ¬ (r : Int) < 10 := by have := Hr.out; omega
      have SE := hid (show enc F l = xl (shl (sbl (stt F l 9))) (rkl F 10) by rw [enc, stt, if_neg (by omega)])
      clear I0 hn hlt
      have XH := hid X
      have CH := hid C
      have RH := hid R
      have BH := hid B
      clear X C R B
      go_wp2_with fail
      have X := XH.out
      have C := CH.out
      have R := RH.out
      have B := BH.out
      clear XH CH RH BH
      refine (subm gb g (stt F l 9) _ sl.out sb.out X (cph_cells C) (by have := Hgb.out; omega)).mono ?_
      rintro e w2 ⟨rfl, XN, hG⟩
      replace C := ar_grown C hG (by have := Hgb.out; omega)
      replace R := ar_grown R hG (by have := Hgb.out; omega)
      replace B := B.grown hG B.size (fun k e => by cases e; have := Hgb.out; omega)
      replace X := XN
      clear XN hG
      have XH := hid X
      have CH := hid C
      have RH := hid R
      have BH := hid B
      clear X C R B
      go_wp2_with fail
      have X := XH.out
      have C := CH.out
      have R := RH.out
      have B := BH.out
      clear XH CH RH BH
      refine (shm gb (sbl (stt F l 9)) _ (sbl_len16 _ sl.out) X).mono ?_
      rintro e w3 ⟨rfl, XN, hG⟩
      replace C := ar_grown C hG (by have := Hgb.out; omega)
      replace R := ar_grown R hG (by have := Hgb.out; omega)
      replace B := B.grown hG B.size (fun k e => by cases e; have := Hgb.out; omega)
      replace X := XN
      clear XN hG
      have RG := hid (cph_rk C 10 (by omega))
      have XH := hid X
      have CH := hid C
      have RH := hid R
      have BH := hid B
      clear X C R B
      go_wp2_with (refine load_sub rfl 127 _ rfl g (416) rfl (rkl F (10)) RG.out _ Try.underlying127 rfl (blk_size _ (rkl_len _ _)) ?_)
      have X := XH.out
      have C := CH.out
      have R := RH.out
      have B := BH.out
      clear XH CH RH BH
      refine (addm gb (shl (sbl (stt F l 9))) (rkl F 10) _ (shl_len _) (rkl_len _ _) (shl_byt _ (sbl_byt _ sb.out)) (rkl_byt F HF.out 10) X).mono ?_
      rintro e w5 ⟨rfl, XN, hG⟩
      replace C := ar_grown C hG (by have := Hgb.out; omega)
      replace R := ar_grown R hG (by have := Hgb.out; omega)
      replace B := B.grown hG B.size (fun k e => by cases e; have := Hgb.out; omega)
      replace X := XN
      clear XN hG
      clear RG
      rw [← SE.out] at X
      have Z := hid (blk_size (enc F l) (stt_len F l HL.out 10))
      have SR := hid (R.row (l' := enc F l))
      have SB := hid (below_row B (g := gb + 1) (by have := Hgb.out; omega) (arr (enc F l)))
      have ho := hid (show (arr (zs 16)).size = (arr (enc F l)).size by rw [arr_size, arr_size, zs_len]; exact (stt_len F l HL.out 10).symm)
      have XH := hid X
      have CH := hid C
      have RH := hid R
      have BH := hid B
      clear X C R B
      go_wp2_with (first | refine wpList_load_row rfl 127 _ rfl gb rfl 127 (arr (enc F l)) _ _ XH.out Try.underlying127 rfl Z.out ?_ | refine wpList_store_row rfl 127 _ _ rfl (gb + 1) (arr (enc F l)) rfl rfl 127 _ RH.out Z.out ho.out (arr_one _) ?_)
      exact bodyPost_ret (v := .agg (arr (enc F l))) (results_cell_row rfl _ _ (gb + 1) 127 _ _ _ rfl SR.out Try.underlying127 rfl Z.out) rfl ⟨rfl, SB.out⟩
end Go.Proofs.Ytckgjghpfjinfak.W
