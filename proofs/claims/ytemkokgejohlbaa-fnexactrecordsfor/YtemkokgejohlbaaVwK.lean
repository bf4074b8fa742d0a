/-
  How the exact laws compare, mark and hold slices of claims.
-/
import Derived.Test.YtemkokgejohlbaaVwE
import Derived.Test.YtemkokgejohlbaaSlX
namespace Go.Proofs.Ytemkokgejohlbaa.W
open Go.ChangeShapes Go.WideShapes Go.ChangeAt Go.RowKit
open Go.Proofs.Ytemkokgejohlbaa.M

set_option maxHeartbeats 1000000 in
set_option maxRecDepth 100000 in
theorem eqCS (va vb : Value) (cs : List Clm) (w : World) (ha : RdC w va cs) (hb : RdC w vb cs) (hl : cs.length ≤ 1048576) :
    Calls Try.prog 9 #[va, vb] w fun e w' => e = .returned (.bool true) ∧ Below w.heap.size w w' := by
  have HA := hid ha
  have HB := hid hb
  obtain ⟨a, ca, rfl, -, -, -⟩ := ha.parts
  obtain ⟨b, cb, rfl, -, -, -⟩ := hb.parts
  clear ha hb
  go_enter Try.func9, Try.ntmps9
  go_wp2_with fail
  go_loopw [5] (fun i wr => ∃ k : Nat, k ≤ cs.length ∧ i = .int .i64 k ∧ Hid (Below w.heap.size w wr)) (fun i _ => cs.length - (intOf i).toNat)
  case atStart => exact ⟨0, by omega, rfl, hid (Below.refl _ _)⟩
  case round =>
    obtain ⟨k, hk, rfl, BL⟩ := hrel
    by_cases hlt : k < cs.length
    · obtain ⟨a', ca', e, -, -, hcs⟩ := (HA.out.below BL.out).parts
      cases e
      obtain ⟨ba, oa, rfl, q1⟩ := hcs k hlt
      obtain ⟨b', cb', e, -, -, hcs2⟩ := (HB.out.below BL.out).parts
      cases e
      obtain ⟨bb, ob, rfl, r1⟩ := hcs2 k hlt
      obtain ⟨c0, c1, c2, c3⟩ := c_cells q1
      obtain ⟨d0, d1, d2, d3⟩ := c_cells r1
      have I1 := idx_ci ba oa cs.length ca k hlt
      have I2 := idx_ci bb ob cs.length cb k hlt
      have k0 : (0 : Int) ≤ (k : Int) := by omega
      have k1 : (k : Int) < (cs.length : Int) := by omega
      obtain ⟨M, hM⟩ : ∃ M, M = cs[k] := ⟨_, rfl⟩
      rw [← hM] at c0 c1 c2 c3 d0 d1 d2 d3
      clear q1 r1 hcs hcs2 hM
      go_wp2_with fail
      refine wp_region_held_drew (S := fun w' => Below wr.heap.size wr w') (by kernel_rfl) (Below.refl _ _).drew (fun hH => ?_)
      refine wpAnyH_take (i := 0) (v := .slice (some ⟨ba, oa, none⟩) cs.length ca) (by simp only [List.getElem?_toArray, List.getElem?_cons_zero]; rfl) (by kernel_rfl) (by kernel_rfl) (by kernel_rfl) (by intro _ _ _ h; exact h) (Or.inl ⟨by rfl, fun w hS => by go_simp⟩) hH ?_
      simp only [Act.put, List.setIfInBounds_toArray, List.set_cons_zero, List.set_cons_succ]
      refine wpAnyH_take (i := 1) (v := .int .i64 (k : Int)) (by simp only [List.getElem?_toArray, List.getElem?_cons_succ, List.getElem?_cons_zero]; rfl) (by kernel_rfl) (by kernel_rfl) (by kernel_rfl) (by intro _ _ _ h; exact h) (Or.inl ⟨by rfl, fun w hS => by go_simp⟩) hH ?_
      simp only [Act.put, List.setIfInBounds_toArray, List.set_cons_zero, List.set_cons_succ]
      refine wpAnyH_take (i := 2) (v := .pointer (some ⟨ba, oa + k * 4, none⟩)) (by simp only [List.getElem?_toArray, List.getElem?_cons_succ, List.getElem?_cons_zero]; rfl) (by kernel_rfl) (by kernel_rfl) (by kernel_rfl) (by intro _ _ _ h; exact h) (Or.inl ⟨by rfl, fun w hS => by go_simp⟩) hH ?_
      simp only [Act.put, List.setIfInBounds_toArray, List.set_cons_zero, List.set_cons_succ]
      refine wpAnyH_take (i := 3) (v := .agg #[.int .i64 M.n, .int .i64 M.i, .int .i64 M.s, .int .i64 M.m]) (by simp only [List.getElem?_toArray, List.getElem?_cons_succ, List.getElem?_cons_zero]; rfl) (by kernel_rfl) (by kernel_rfl) (by kernel_rfl) (by intro _ _ _ h; exact h) (Or.inl ⟨by rfl, fun w hS => by (have y0 := cell_kept hS c0; have y1 := cell_kept hS c1; have y2 := cell_kept hS c2; have y3 := cell_kept hS c3; go_simp)⟩) hH ?_
      simp only [Act.put, List.setIfInBounds_toArray, List.set_cons_zero, List.set_cons_succ]
      refine wpAnyH_take (i := 4) (v := .slice (some ⟨bb, ob, none⟩) cs.length cb) (by simp only [List.getElem?_toArray, List.getElem?_cons_succ, List.getElem?_cons_zero]; rfl) (by kernel_rfl) (by kernel_rfl) (by kernel_rfl) (by intro _ _ _ h; exact h) (Or.inl ⟨by rfl, fun w hS => by go_simp⟩) hH ?_
      simp only [Act.put, List.setIfInBounds_toArray, List.set_cons_zero, List.set_cons_succ]
      refine wpAnyH_take (i := 5) (v := .int .i64 (k : Int)) (by simp only [List.getElem?_toArray, List.getElem?_cons_succ, List.getElem?_cons_zero]; rfl) (by kernel_rfl) (by kernel_rfl) (by kernel_rfl) (by intro _ _ _ h; exact h) (Or.inl ⟨by rfl, fun w hS => by go_simp⟩) hH ?_
      simp only [Act.put, List.setIfInBounds_toArray, List.set_cons_zero, List.set_cons_succ]
      refine wpAnyH_take (i := 6) (v := .pointer (some ⟨bb, ob + k * 4, none⟩)) (by simp only [List.getElem?_toArray, List.getElem?_cons_succ, List.getElem?_cons_zero]; rfl) (by kernel_rfl) (by kernel_rfl) (by kernel_rfl) (by intro _ _ _ h; exact h) (Or.inl ⟨by rfl, fun w hS => by go_simp⟩) hH ?_
      simp only [Act.put, List.setIfInBounds_toArray, List.set_cons_zero, List.set_cons_succ]
      refine wpAnyH_take (i := 7) (v := .agg #[.int .i64 M.n, .int .i64 M.i, .int .i64 M.s, .int .i64 M.m]) (by simp only [List.getElem?_toArray, List.getElem?_cons_succ, List.getElem?_cons_zero]; rfl) (by kernel_rfl) (by kernel_rfl) (by kernel_rfl) (by intro _ _ _ h; exact h) (Or.inl ⟨by rfl, fun w hS => by (have y0 := cell_kept hS d0; have y1 := cell_kept hS d1; have y2 := cell_kept hS d2; have y3 := cell_kept hS d3; go_simp)⟩) hH ?_
      simp only [Act.put, List.setIfInBounds_toArray, List.set_cons_zero, List.set_cons_succ]
      refine wpAnyH_ready (rs := [8]) (by kernel_rfl) (by simp) ?_
      refine AllReadyH.cons (by simp only [List.getElem?_toArray, List.getElem?_cons_succ, List.getElem?_cons_zero]; rfl) (fun K hK => ?_) AllReadyH.nil
      go_simp
      refine (eqcl _ _ _ _ _).mono ?_
      rintro e x8 ⟨rfl, hM⟩
      refine hK.out _ _ (hH.trans (hM.mono hH.size)) (fun hH => ?_)
      clear hK K
      clear hM
      refine wpAnyH_take (i := 9) (v := .bool false) (by simp only [List.getElem?_toArray, List.getElem?_cons_succ, List.getElem?_cons_zero]; rfl) (by kernel_rfl) (by kernel_rfl) (by kernel_rfl) (by intro _ _ _ h; exact h) (Or.inl ⟨by rfl, fun w hS => by go_simp⟩) hH ?_
      simp only [Act.put, List.setIfInBounds_toArray, List.set_cons_zero, List.set_cons_succ]
      refine wpAnyH_done (by kernel_rfl) ?_ _
      replace BL := hid (BL.out.trans (hH.mono BL.out.size))
      clear hH c0 d0 c1 d1 c2 d2 c3 d3
      go_wp2
      go_roundw
      case rel => exact ⟨k + 1, hlt, by go_num, BL⟩
      case measure => simp [intOf]; omega
    · have hke : k = cs.length := by omega
      subst hke
      go_wp2
      go_ret
      exact ⟨rfl, BL.out⟩
set_option maxHeartbeats 2000000 in
set_option maxRecDepth 100000 in
theorem markCx (v : Value) (cs : List Clm) (k base : Nat) (w : World) (h : OwC w base v cs) (hl : cs.length ≤ 1048576) (hk : k ≤ 16777216) :
    Calls Try.prog 10 #[v, .int .i64 (k : Int)] w fun e w' => e = .returned (.int .i64 ((k + cs.length * 4 : Nat) : Int)) ∧ OwC w' base v (marksC k cs.length) ∧ w.grownBy w' v.ownBlock := by
  rcases h.2 with ⟨rfl, h0⟩ | ⟨g, cap, cur, rfl, -, -, -, -, -, -⟩
  · obtain rfl := List.eq_nil_of_length_eq_zero h0
    go_enter Try.func10, Try.ntmps10
    go_wp2
    refine wp_loop_rounds 1 ?_
    rw [rounds_succ]
    go_wp2
    go_ret
    exact ⟨rfl, h, World.grownBy.refl _ _⟩
  · rw [show (Value.slice (some ⟨g, 0, none⟩) cs.length cap).ownBlock = some g from rfl]
    go_enter Try.func10, Try.ntmps10
    go_wp2
    go_loopw [1, 5] (fun kk i wr => ∃ j : Nat, j ≤ cs.length ∧ i = .int .i64 j ∧ kk = .int .i64 (k + j * 4 : Nat) ∧ Hid (OwC wr base (.slice (some ⟨g, 0, none⟩) cs.length cap) (markedC cs k j)) ∧ Hid (w.grownBy wr (some g))) (fun _ i _ => cs.length - (intOf i).toNat)
    case atStart => exact ⟨0, by omega, rfl, rfl, hid (by rw [markedC_zero]; exact h), hid (World.grownBy.refl _ _)⟩
    case round =>
      obtain ⟨j, hj, rfl, rfl, FL, GL⟩ := hrel
      by_cases hlt : j < cs.length
      · have hl1 := markedC_len cs k j hj
        obtain ⟨d, fz⟩ := FL.out.open hl1 j (by omega)
        obtain ⟨d0, d1, d2, d3⟩ := c_cells d
        have z0 := fz (j * 4)
        have z1 := fz (j * 4 + 1)
        have z2 := fz (j * 4 + 2)
        have z3 := fz (j * 4 + 3)
        have FN := hid (FL.out.put hl1 j (by omega) ⟨((k + j * 4 : Nat) : Int), ((k + j * 4 + 1 : Nat) : Int), ((k + j * 4 + 2 : Nat) : Int), ((k + j * 4 + 3 : Nat) : Int)⟩)
        rw [markedC_set cs k j hlt] at FN
        have GN := hid (grown_trans GL.out (st4_grown wr g (j * 4) ⟨((k + j * 4 : Nat) : Int), ((k + j * 4 + 1 : Nat) : Int), ((k + j * 4 + 2 : Nat) : Int), ((k + j * 4 + 3 : Nat) : Int)⟩))
        unfold st4 at FN GN
        have I2 := idx_ci g 0 cs.length cap j hlt
        rw [Nat.zero_add] at I2
        generalize (markedC cs k j)[j] = M at d0 d1 d2 d3
        obtain ⟨kj, hkj⟩ : ∃ kj, kj = k + j * 4 := ⟨_, rfl⟩
        rw [← hkj] at FN GN ⊢
        have b0 : kj < 33554432 := by omega
        replace hkj := hid hkj
        have e1 : ((kj + 1 : Nat) : Int) = (kj : Int) + 1 := by omega
        have e2 : ((kj + 2 : Nat) : Int) = (kj : Int) + 2 := by omega
        have e3 : ((kj + 3 : Nat) : Int) = (kj : Int) + 3 := by omega
        simp only [e1, e2, e3] at FN GN
        clear FL GL d fz h hl1 e1 e2 e3
        go_wp2
        go_roundw
        case rel => exact ⟨j + 1, by omega, by go_num, by have := hkj.out; go_num, FN, GN⟩
        case measure => simp [intOf]; omega
      · have hk8 : j = cs.length := by omega
        subst hk8
        rw [markedC_end] at FL
        go_wp2
        go_ret
        exact ⟨rfl, FL.out, GL.out⟩
end Go.Proofs.Ytemkokgejohlbaa.W
