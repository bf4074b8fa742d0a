/-
  How the exact laws compare, mark and hold slices of waits.
-/
import Derived.Test.YtbleikbmnkjbeapWtE
import Derived.Test.YtbleikbmnkjbeapSlX
namespace Go.Proofs.Ytbleikbmnkjbeap.W
open Go.ChangeShapes Go.WideShapes Go.ChangeAt Go.RowKit
open Go.Proofs.Ytbleikbmnkjbeap.M

set_option maxHeartbeats 1000000 in
set_option maxRecDepth 100000 in
theorem eqJS (va vb : Value) (cs : List Wai) (w : World) (ha : RdJ w va cs) (hb : RdJ w vb cs) (hl : cs.length ≤ 1048576) :
    Calls Try.prog 13 #[va, vb] w fun e w' => e = .returned (.bool true) ∧ Below w.heap.size w w' := by
  have HA := hid ha
  have HB := hid hb
  obtain ⟨a, ca, rfl, -, -, -⟩ := ha.parts
  obtain ⟨b, cb, rfl, -, -, -⟩ := hb.parts
  clear ha hb
  go_enter Try.func13, Try.ntmps13
  go_wp2_with fail
  go_loopw [5] (fun i wr => ∃ k : Nat, k ≤ cs.length ∧ i = .int .i64 k ∧ Hid (Below w.heap.size w wr)) (fun i _ => cs.length - (intOf i).toNat)
  case atStart => exact ⟨0, by omega, rfl, hid (Below.refl _ _)⟩
  case round =>
    obtain ⟨k, hk, rfl, BL⟩ := hrel
    by_cases hlt : k < cs.length
    · obtain ⟨a', ca', e, -, -, hcs⟩ := (HA.out.below BL.out).parts
      cases e
      obtain ⟨ba, oa, rfl, q1⟩ := hcs k hlt
      obtain ⟨b', cb', e, -, -, hcs2⟩ := (HB.out.below BL.out).parts
      cases e
      obtain ⟨bb, ob, rfl, r1⟩ := hcs2 k hlt
      obtain ⟨c0, c1, c2, c3, c4, c5, c6⟩ := j_cells q1
      obtain ⟨d0, d1, d2, d3, d4, d5, d6⟩ := j_cells r1
      have I1 := idx_ji ba oa cs.length ca k hlt
      have I2 := idx_ji bb ob cs.length cb k hlt
      have k0 : (0 : Int) ≤ (k : Int) := by omega
      have k1 : (k : Int) < (cs.length : Int) := by omega
      obtain ⟨M, hM⟩ : ∃ M, M = cs[k] := ⟨_, rfl⟩
      rw [← hM] at c0 c1 c2 c3 c4 c5 c6 d0 d1 d2 d3 d4 d5 d6
      clear q1 r1 hcs hcs2 hM
      go_wp2_with fail
      refine wp_region_held_drew (S := fun w' => Below wr.heap.size wr w') (by kernel_rfl) (Below.refl _ _).drew (fun hH => ?_)
      refine wpAnyH_take (i := 0) (v := .slice (some ⟨ba, oa, none⟩) cs.length ca) (by simp only [List.getElem?_toArray, List.getElem?_cons_zero]; rfl) (by kernel_rfl) (by kernel_rfl) (by kernel_rfl) (by intro _ _ _ h; exact h) (Or.inl ⟨by rfl, fun w hS => by go_simp⟩) hH ?_
      simp only [Act.put, List.setIfInBounds_toArray, List.set_cons_zero, List.set_cons_succ]
      refine wpAnyH_take (i := 1) (v := .int .i64 (k : Int)) (by simp only [List.getElem?_toArray, List.getElem?_cons_succ, List.getElem?_cons_zero]; rfl) (by kernel_rfl) (by kernel_rfl) (by kernel_rfl) (by intro _ _ _ h; exact h) (Or.inl ⟨by rfl, fun w hS => by go_simp⟩) hH ?_
      simp only [Act.put, List.setIfInBounds_toArray, List.set_cons_zero, List.set_cons_succ]
      refine wpAnyH_take (i := 2) (v := .pointer (some ⟨ba, oa + k * 7, none⟩)) (by simp only [List.getElem?_toArray, List.getElem?_cons_succ, List.getElem?_cons_zero]; rfl) (by kernel_rfl) (by kernel_rfl) (by kernel_rfl) (by intro _ _ _ h; exact h) (Or.inl ⟨by rfl, fun w hS => by go_simp⟩) hH ?_
      simp only [Act.put, List.setIfInBounds_toArray, List.set_cons_zero, List.set_cons_succ]
      refine wpAnyH_take (i := 3) (v := .agg #[.int .i64 M.a, .int .i64 M.b, .int .i64 M.c, .int .i64 M.d, .int .i64 M.e, .int .i64 M.f, .int .i64 M.g]) (by simp only [List.getElem?_toArray, List.getElem?_cons_succ, List.getElem?_cons_zero]; rfl) (by kernel_rfl) (by kernel_rfl) (by kernel_rfl) (by intro _ _ _ h; exact h) (Or.inl ⟨by rfl, fun w hS => by (have y0 := cell_kept hS c0; have y1 := cell_kept hS c1; have y2 := cell_kept hS c2; have y3 := cell_kept hS c3; have y4 := cell_kept hS c4; have y5 := cell_kept hS c5; have y6 := cell_kept hS c6; go_simp)⟩) hH ?_
      simp only [Act.put, List.setIfInBounds_toArray, List.set_cons_zero, List.set_cons_succ]
      refine wpAnyH_take (i := 4) (v := .slice (some ⟨bb, ob, none⟩) cs.length cb) (by simp only [List.getElem?_toArray, List.getElem?_cons_succ, List.getElem?_cons_zero]; rfl) (by kernel_rfl) (by kernel_rfl) (by kernel_rfl) (by intro _ _ _ h; exact h) (Or.inl ⟨by rfl, fun w hS => by go_simp⟩) hH ?_
      simp only [Act.put, List.setIfInBounds_toArray, List.set_cons_zero, List.set_cons_succ]
      refine wpAnyH_take (i := 5) (v := .int .i64 (k : Int)) (by simp only [List.getElem?_toArray, List.getElem?_cons_succ, List.getElem?_cons_zero]; rfl) (by kernel_rfl) (by kernel_rfl) (by kernel_rfl) (by intro _ _ _ h; exact h) (Or.inl ⟨by rfl, fun w hS => by go_simp⟩) hH ?_
      simp only [Act.put, List.setIfInBounds_toArray, List.set_cons_zero, List.set_cons_succ]
      refine wpAnyH_take (i := 6) (v := .pointer (some ⟨bb, ob + k * 7, none⟩)) (by simp only [List.getElem?_toArray, List.getElem?_cons_succ, List.getElem?_cons_zero]; rfl) (by kernel_rfl) (by kernel_rfl) (by kernel_rfl) (by intro _ _ _ h; exact h) (Or.inl ⟨by rfl, fun w hS => by go_simp⟩) hH ?_
      simp only [Act.put, List.setIfInBounds_toArray, List.set_cons_zero, List.set_cons_succ]
      refine wpAnyH_take (i := 7) (v := .agg #[.int .i64 M.a, .int .i64 M.b, .int .i64 M.c, .int .i64 M.d, .int .i64 M.e, .int .i64 M.f, .int .i64 M.g]) (by simp only [List.getElem?_toArray, List.getElem?_cons_succ, List.getElem?_cons_zero]; rfl) (by kernel_rfl) (by kernel_rfl) (by kernel_rfl) (by intro _ _ _ h; exact h) (Or.inl ⟨by rfl, fun w hS => by (have y0 := cell_kept hS d0; have y1 := cell_kept hS d1; have y2 := cell_kept hS d2; have y3 := cell_kept hS d3; have y4 := cell_kept hS d4; have y5 := cell_kept hS d5; have y6 := cell_kept hS d6; go_simp)⟩) hH ?_
      simp only [Act.put, List.setIfInBounds_toArray, List.set_cons_zero, List.set_cons_succ]
      refine wpAnyH_ready (rs := [8]) (by kernel_rfl) (by simp) ?_
      refine AllReadyH.cons (by simp only [List.getElem?_toArray, List.getElem?_cons_succ, List.getElem?_cons_zero]; rfl) (fun K hK => ?_) AllReadyH.nil
      go_simp
      refine (eqjl _ _ _ _ _ _ _ _).mono ?_
      rintro e x8 ⟨rfl, hM⟩
      refine hK.out _ _ (hH.trans (hM.mono hH.size)) (fun hH => ?_)
      clear hK K
      clear hM
      refine wpAnyH_take (i := 9) (v := .bool false) (by simp only [List.getElem?_toArray, List.getElem?_cons_succ, List.getElem?_cons_zero]; rfl) (by kernel_rfl) (by kernel_rfl) (by kernel_rfl) (by intro _ _ _ h; exact h) (Or.inl ⟨by rfl, fun w hS => by go_simp⟩) hH ?_
      simp only [Act.put, List.setIfInBounds_toArray, List.set_cons_zero, List.set_cons_succ]
      refine wpAnyH_done (by kernel_rfl) ?_ _
      replace BL := hid (BL.out.trans (hH.mono BL.out.size))
      clear hH c0 d0 c1 d1 c2 d2 c3 d3 c4 d4 c5 d5 c6 d6
      go_wp2
      go_roundw
      case rel => exact ⟨k + 1, hlt, by go_num, BL⟩
      case measure => simp [intOf]; omega
    · have hke : k = cs.length := by omega
      subst hke
      go_wp2
      go_ret
      exact ⟨rfl, BL.out⟩
set_option maxHeartbeats 2000000 in
set_option maxRecDepth 100000 in
theorem markJx (v : Value) (cs : List Wai) (k base : Nat) (w : World) (h : OwJ w base v cs) (hl : cs.length ≤ 1048576) (hk : k ≤ 16777216) :
    Calls Try.prog 17 #[v, .int .i64 (k : Int)] w fun e w' => e = .returned (.int .i64 ((k + cs.length * 7 : Nat) : Int)) ∧ OwJ w' base v (marksJ k cs.length) ∧ w.grownBy w' v.ownBlock := by
  rcases h.2 with ⟨rfl, h0⟩ | ⟨g, cap, cur, rfl, -, -, -, -, -, -⟩
  · obtain rfl := List.eq_nil_of_length_eq_zero h0
    go_enter Try.func17, Try.ntmps17
    go_wp2
    refine wp_loop_rounds 1 ?_
    rw [rounds_succ]
    go_wp2
    go_ret
    exact ⟨rfl, h, World.grownBy.refl _ _⟩
  · rw [show (Value.slice (some ⟨g, 0, none⟩) cs.length cap).ownBlock = some g from rfl]
    go_enter Try.func17, Try.ntmps17
    go_wp2
    go_loopw [1, 5] (fun kk i wr => ∃ j : Nat, j ≤ cs.length ∧ i = .int .i64 j ∧ kk = .int .i64 (k + j * 7 : Nat) ∧ Hid (OwJ wr base (.slice (some ⟨g, 0, none⟩) cs.length cap) (markedJ cs k j)) ∧ Hid (w.grownBy wr (some g))) (fun _ i _ => cs.length - (intOf i).toNat)
    case atStart => exact ⟨0, by omega, rfl, rfl, hid (by rw [markedJ_zero]; exact h), hid (World.grownBy.refl _ _)⟩
    case round =>
      obtain ⟨j, hj, rfl, rfl, FL, GL⟩ := hrel
      by_cases hlt : j < cs.length
      · have hl1 := markedJ_len cs k j hj
        obtain ⟨d, fz⟩ := FL.out.open hl1 j (by omega)
        obtain ⟨d0, d1, d2, d3, d4, d5, d6⟩ := j_cells d
        have z0 := fz (j * 7)
        have z1 := fz (j * 7 + 1)
        have z2 := fz (j * 7 + 2)
        have z3 := fz (j * 7 + 3)
        have z4 := fz (j * 7 + 4)
        have z5 := fz (j * 7 + 5)
        have z6 := fz (j * 7 + 6)
        have FN := hid (FL.out.put hl1 j (by omega) ⟨((k + j * 7 : Nat) : Int), ((k + j * 7 + 1 : Nat) : Int), ((k + j * 7 + 2 : Nat) : Int), ((k + j * 7 + 3 : Nat) : Int), ((k + j * 7 + 4 : Nat) : Int), ((k + j * 7 + 5 : Nat) : Int), ((k + j * 7 + 6 : Nat) : Int)⟩)
        rw [markedJ_set cs k j hlt] at FN
        have GN := hid (grown_trans GL.out (st7_grown wr g (j * 7) ⟨((k + j * 7 : Nat) : Int), ((k + j * 7 + 1 : Nat) : Int), ((k + j * 7 + 2 : Nat) : Int), ((k + j * 7 + 3 : Nat) : Int), ((k + j * 7 + 4 : Nat) : Int), ((k + j * 7 + 5 : Nat) : Int), ((k + j * 7 + 6 : Nat) : Int)⟩))
        unfold st7 at FN GN
        have I2 := idx_ji g 0 cs.length cap j hlt
        rw [Nat.zero_add] at I2
        generalize (markedJ cs k j)[j] = M at d0 d1 d2 d3 d4 d5 d6
        obtain ⟨kj, hkj⟩ : ∃ kj, kj = k + j * 7 := ⟨_, rfl⟩
        rw [← hkj] at FN GN ⊢
        have b0 : kj < 33554432 := by omega
        replace hkj := hid hkj
        have e1 : ((kj + 1 : Nat) : Int) = (kj : Int) + 1 := by omega
        have e2 : ((kj + 2 : Nat) : Int) = (kj : Int) + 2 := by omega
        have e3 : ((kj + 3 : Nat) : Int) = (kj : Int) + 3 := by omega
        have e4 : ((kj + 4 : Nat) : Int) = (kj : Int) + 4 := by omega
        have e5 : ((kj + 5 : Nat) : Int) = (kj : Int) + 5 := by omega
        have e6 : ((kj + 6 : Nat) : Int) = (kj : Int) + 6 := by omega
        simp only [e1, e2, e3, e4, e5, e6] at FN GN
        clear FL GL d fz h hl1 e1 e2 e3 e4 e5 e6
        go_wp2
        go_roundw
        case rel => exact ⟨j + 1, by omega, by go_num, by have := hkj.out; go_num, FN, GN⟩
        case measure => simp [intOf]; omega
      · have hk8 : j = cs.length := by omega
        subst hk8
        rw [markedJ_end] at FL
        go_wp2
        go_ret
        exact ⟨rfl, FL.out, GL.out⟩
theorem markJo (v : Value) (cs : List Wai) (k : Nat) (z : Int) (hz : z = (k : Int)) (lo hi : Nat) (w : World) (h : OJ w lo hi v cs) (hl : cs.length ≤ 1048576) (hk : k ≤ 16777216) :
    Calls Try.prog 17 #[v, .int .i64 z] w fun e w' => e = .returned (.int .i64 ((k + cs.length * 7 : Nat) : Int)) ∧ OJ w' lo hi v (marksJ k cs.length) ∧ Ins lo hi w w' := by
  subst hz
  exact (markJx v cs k lo w h.1 hl hk).mono fun _ _ ⟨he, hO, hG⟩ => ⟨he, ⟨hO, h.2⟩, Ins.of_grown hG fun _ e => h.blk e⟩
set_option maxHeartbeats 1000000 in
set_option maxRecDepth 100000 in
theorem heldJ (v : Value) (n k : Nat) (w : World) (h : RdJ w v (marksJ k n)) (hl : n ≤ 1048576) (hk : k ≤ 16777216) :
    Calls Try.prog 42 #[v, .int .i64 (k : Int)] w fun e w' => e = .returned (.int .i64 ((k + n * 7 : Nat) : Int)) ∧ w' = w := by
  obtain ⟨a, cap, rfl, _, _, hcs⟩ := h.parts
  rw [marksJ_len] at *
  clear h
  go_enter Try.func42, Try.ntmps42
  go_wp2
  go_loop [1, 5] (fun kk i => ∃ j : Nat, j ≤ n ∧ i = .int .i64 j ∧ kk = .int .i64 (k + j * 7 : Nat)) (fun _ i => n - (intOf i).toNat)
  case atStart => exact ⟨0, by omega, rfl, rfl⟩
  case round =>
    obtain ⟨j, hj, rfl, rfl⟩ := hrel
    by_cases hlt : j < n
    · obtain ⟨b, o, rfl, hc⟩ := hcs j (by rw [marksJ_len]; exact hlt)
      clear hcs
      rw [marksJ_at] at hc
      obtain ⟨c0, c1, c2, c3, c4, c5, c6⟩ := j_cells hc
      have I2 := idx_ji b o n cap j hlt
      obtain ⟨kj, hkj⟩ : ∃ kj, kj = k + j * 7 := ⟨_, rfl⟩
      rw [← hkj] at c0 c1 c2 c3 c4 c5 c6 ⊢
      have b0 : kj < 33554432 := by omega
      replace hkj := hid hkj
      have e1 : ((kj + 1 : Nat) : Int) = (kj : Int) + 1 := by omega
      have e2 : ((kj + 2 : Nat) : Int) = (kj : Int) + 2 := by omega
      have e3 : ((kj + 3 : Nat) : Int) = (kj : Int) + 3 := by omega
      have e4 : ((kj + 4 : Nat) : Int) = (kj : Int) + 4 := by omega
      have e5 : ((kj + 5 : Nat) : Int) = (kj : Int) + 5 := by omega
      have e6 : ((kj + 6 : Nat) : Int) = (kj : Int) + 6 := by omega
      simp only [e1, e2, e3, e4, e5, e6] at c1 c2 c3 c4 c5 c6
      clear e1 e2 e3 e4 e5 e6 hc
      go_wp2
      go_round
      case rel => exact ⟨j + 1, by omega, by go_num, by have := hkj.out; go_num⟩
      case measure => simp [intOf]; omega
    · have hk8 : j = n := by omega
      subst hk8
      go_wp2
      go_ret
      exact ⟨rfl, rfl⟩
end Go.Proofs.Ytbleikbmnkjbeap.W
