/-
  How the exact laws compare, mark and hold slices of records.
-/
import Derived.Test.YtemkokgejohlbaaRcEl
import Derived.Test.YtemkokgejohlbaaSlX
namespace Go.Proofs.Ytemkokgejohlbaa.W
open Go.ChangeShapes Go.WideShapes Go.ChangeAt Go.RowKit
open Go.Proofs.Ytemkokgejohlbaa.M

set_option maxHeartbeats 1000000 in
set_option maxRecDepth 100000 in
theorem eqDS (va vb : Value) (cs : List Rcd) (w : World) (ha : RdD w va cs) (hb : RdD w vb cs) (hl : cs.length ≤ 1048576) :
    Calls Try.prog 20 #[va, vb] w fun e w' => e = .returned (.bool true) ∧ Below w.heap.size w w' := by
  have HA := hid ha
  have HB := hid hb
  obtain ⟨a, ca, rfl, -, -, -⟩ := ha.parts
  obtain ⟨b, cb, rfl, -, -, -⟩ := hb.parts
  clear ha hb
  go_enter Try.func20, Try.ntmps20
  go_wp2_with fail
  go_loopw [5] (fun i wr => ∃ k : Nat, k ≤ cs.length ∧ i = .int .i64 k ∧ Hid (Below w.heap.size w wr)) (fun i _ => cs.length - (intOf i).toNat)
  case atStart => exact ⟨0, by omega, rfl, hid (Below.refl _ _)⟩
  case round =>
    obtain ⟨k, hk, rfl, BL⟩ := hrel
    by_cases hlt : k < cs.length
    · obtain ⟨a', ca', e, -, -, hcs⟩ := (HA.out.below BL.out).parts
      cases e
      obtain ⟨ba, oa, rfl, q1⟩ := hcs k hlt
      obtain ⟨b', cb', e, -, -, hcs2⟩ := (HB.out.below BL.out).parts
      cases e
      obtain ⟨bb, ob, rfl, r1⟩ := hcs2 k hlt
      obtain ⟨c0, c1, c2⟩ := d_cells q1
      obtain ⟨d0, d1, d2⟩ := d_cells r1
      have I1 := idx_di ba oa cs.length ca k hlt
      have I2 := idx_di bb ob cs.length cb k hlt
      have k0 : (0 : Int) ≤ (k : Int) := by omega
      have k1 : (k : Int) < (cs.length : Int) := by omega
      obtain ⟨M, hM⟩ : ∃ M, M = cs[k] := ⟨_, rfl⟩
      rw [← hM] at c0 c1 c2 d0 d1 d2
      clear q1 r1 hcs hcs2 hM
      go_wp2_with fail
      refine wp_region_held_drew (S := fun w' => Below wr.heap.size wr w') (by kernel_rfl) (Below.refl _ _).drew (fun hH => ?_)
      refine wpAnyH_take (i := 0) (v := .slice (some ⟨ba, oa, none⟩) cs.length ca) (by simp only [List.getElem?_toArray, List.getElem?_cons_zero]; rfl) (by kernel_rfl) (by kernel_rfl) (by kernel_rfl) (by intro _ _ _ h; exact h) (Or.inl ⟨by rfl, fun w hS => by go_simp⟩) hH ?_
      simp only [Act.put, List.setIfInBounds_toArray, List.set_cons_zero, List.set_cons_succ]
      refine wpAnyH_take (i := 1) (v := .int .i64 (k : Int)) (by simp only [List.getElem?_toArray, List.getElem?_cons_succ, List.getElem?_cons_zero]; rfl) (by kernel_rfl) (by kernel_rfl) (by kernel_rfl) (by intro _ _ _ h; exact h) (Or.inl ⟨by rfl, fun w hS => by go_simp⟩) hH ?_
      simp only [Act.put, List.setIfInBounds_toArray, List.set_cons_zero, List.set_cons_succ]
      refine wpAnyH_take (i := 2) (v := .pointer (some ⟨ba, oa + k * 3, none⟩)) (by simp only [List.getElem?_toArray, List.getElem?_cons_succ, List.getElem?_cons_zero]; rfl) (by kernel_rfl) (by kernel_rfl) (by kernel_rfl) (by intro _ _ _ h; exact h) (Or.inl ⟨by rfl, fun w hS => by go_simp⟩) hH ?_
      simp only [Act.put, List.setIfInBounds_toArray, List.set_cons_zero, List.set_cons_succ]
      refine wpAnyH_take (i := 3) (v := .agg #[.int .i64 M.a, .int .i64 M.b, .int .i64 M.c]) (by simp only [List.getElem?_toArray, List.getElem?_cons_succ, List.getElem?_cons_zero]; rfl) (by kernel_rfl) (by kernel_rfl) (by kernel_rfl) (by intro _ _ _ h; exact h) (Or.inl ⟨by rfl, fun w hS => by (have y0 := cell_kept hS c0; have y1 := cell_kept hS c1; have y2 := cell_kept hS c2; go_simp)⟩) hH ?_
      simp only [Act.put, List.setIfInBounds_toArray, List.set_cons_zero, List.set_cons_succ]
      refine wpAnyH_take (i := 4) (v := .slice (some ⟨bb, ob, none⟩) cs.length cb) (by simp only [List.getElem?_toArray, List.getElem?_cons_succ, List.getElem?_cons_zero]; rfl) (by kernel_rfl) (by kernel_rfl) (by kernel_rfl) (by intro _ _ _ h; exact h) (Or.inl ⟨by rfl, fun w hS => by go_simp⟩) hH ?_
      simp only [Act.put, List.setIfInBounds_toArray, List.set_cons_zero, List.set_cons_succ]
      refine wpAnyH_take (i := 5) (v := .int .i64 (k : Int)) (by simp only [List.getElem?_toArray, List.getElem?_cons_succ, List.getElem?_cons_zero]; rfl) (by kernel_rfl) (by kernel_rfl) (by kernel_rfl) (by intro _ _ _ h; exact h) (Or.inl ⟨by rfl, fun w hS => by go_simp⟩) hH ?_
      simp only [Act.put, List.setIfInBounds_toArray, List.set_cons_zero, List.set_cons_succ]
      refine wpAnyH_take (i := 6) (v := .pointer (some ⟨bb, ob + k * 3, none⟩)) (by simp only [List.getElem?_toArray, List.getElem?_cons_succ, List.getElem?_cons_zero]; rfl) (by kernel_rfl) (by kernel_rfl) (by kernel_rfl) (by intro _ _ _ h; exact h) (Or.inl ⟨by rfl, fun w hS => by go_simp⟩) hH ?_
      simp only [Act.put, List.setIfInBounds_toArray, List.set_cons_zero, List.set_cons_succ]
      refine wpAnyH_take (i := 7) (v := .agg #[.int .i64 M.a, .int .i64 M.b, .int .i64 M.c]) (by simp only [List.getElem?_toArray, List.getElem?_cons_succ, List.getElem?_cons_zero]; rfl) (by kernel_rfl) (by kernel_rfl) (by kernel_rfl) (by intro _ _ _ h; exact h) (Or.inl ⟨by rfl, fun w hS => by (have y0 := cell_kept hS d0; have y1 := cell_kept hS d1; have y2 := cell_kept hS d2; go_simp)⟩) hH ?_
      simp only [Act.put, List.setIfInBounds_toArray, List.set_cons_zero, List.set_cons_succ]
      refine wpAnyH_ready (rs := [8]) (by kernel_rfl) (by simp) ?_
      refine AllReadyH.cons (by simp only [List.getElem?_toArray, List.getElem?_cons_succ, List.getElem?_cons_zero]; rfl) (fun K hK => ?_) AllReadyH.nil
      go_simp
      refine (eqdl _ _ _ _).mono ?_
      rintro e x8 ⟨rfl, hM⟩
      refine hK.out _ _ (hH.trans (hM.mono hH.size)) (fun hH => ?_)
      clear hK K
      clear hM
      refine wpAnyH_take (i := 9) (v := .bool false) (by simp only [List.getElem?_toArray, List.getElem?_cons_succ, List.getElem?_cons_zero]; rfl) (by kernel_rfl) (by kernel_rfl) (by kernel_rfl) (by intro _ _ _ h; exact h) (Or.inl ⟨by rfl, fun w hS => by go_simp⟩) hH ?_
      simp only [Act.put, List.setIfInBounds_toArray, List.set_cons_zero, List.set_cons_succ]
      refine wpAnyH_done (by kernel_rfl) ?_ _
      replace BL := hid (BL.out.trans (hH.mono BL.out.size))
      clear hH c0 d0 c1 d1 c2 d2
      go_wp2
      go_roundw
      case rel => exact ⟨k + 1, hlt, by go_num, BL⟩
      case measure => simp [intOf]; omega
    · have hke : k = cs.length := by omega
      subst hke
      go_wp2
      go_ret
      exact ⟨rfl, BL.out⟩
set_option maxHeartbeats 2000000 in
set_option maxRecDepth 100000 in
theorem markDx (v : Value) (cs : List Rcd) (k base : Nat) (w : World) (h : OwD w base v cs) (hl : cs.length ≤ 1048576) (hk : k ≤ 16777216) :
    Calls Try.prog 22 #[v, .int .i64 (k : Int)] w fun e w' => e = .returned (.int .i64 ((k + cs.length * 3 : Nat) : Int)) ∧ OwD w' base v (marksD k cs.length) ∧ w.grownBy w' v.ownBlock := by
  rcases h.2 with ⟨rfl, h0⟩ | ⟨g, cap, cur, rfl, -, -, -, -, -, -⟩
  · obtain rfl := List.eq_nil_of_length_eq_zero h0
    go_enter Try.func22, Try.ntmps22
    go_wp2
    refine wp_loop_rounds 1 ?_
    rw [rounds_succ]
    go_wp2
    go_ret
    exact ⟨rfl, h, World.grownBy.refl _ _⟩
  · rw [show (Value.slice (some ⟨g, 0, none⟩) cs.length cap).ownBlock = some g from rfl]
    go_enter Try.func22, Try.ntmps22
    go_wp2
    go_loopw [1, 5] (fun kk i wr => ∃ j : Nat, j ≤ cs.length ∧ i = .int .i64 j ∧ kk = .int .i64 (k + j * 3 : Nat) ∧ Hid (OwD wr base (.slice (some ⟨g, 0, none⟩) cs.length cap) (markedD cs k j)) ∧ Hid (w.grownBy wr (some g))) (fun _ i _ => cs.length - (intOf i).toNat)
    case atStart => exact ⟨0, by omega, rfl, rfl, hid (by rw [markedD_zero]; exact h), hid (World.grownBy.refl _ _)⟩
    case round =>
      obtain ⟨j, hj, rfl, rfl, FL, GL⟩ := hrel
      by_cases hlt : j < cs.length
      · have hl1 := markedD_len cs k j hj
        obtain ⟨d, fz⟩ := FL.out.open hl1 j (by omega)
        obtain ⟨d0, d1, d2⟩ := d_cells d
        have z0 := fz (j * 3)
        have z1 := fz (j * 3 + 1)
        have z2 := fz (j * 3 + 2)
        have FN := hid (FL.out.put hl1 j (by omega) ⟨((k + j * 3 : Nat) : Int), ((k + j * 3 + 1 : Nat) : Int), ((k + j * 3 + 2 : Nat) : Int)⟩)
        rw [markedD_set cs k j hlt] at FN
        have GN := hid (grown_trans GL.out (st3d_grown wr g (j * 3) ⟨((k + j * 3 : Nat) : Int), ((k + j * 3 + 1 : Nat) : Int), ((k + j * 3 + 2 : Nat) : Int)⟩))
        unfold st3d at FN GN
        have I2 := idx_di g 0 cs.length cap j hlt
        rw [Nat.zero_add] at I2
        generalize (markedD cs k j)[j] = M at d0 d1 d2
        obtain ⟨kj, hkj⟩ : ∃ kj, kj = k + j * 3 := ⟨_, rfl⟩
        rw [← hkj] at FN GN ⊢
        have b0 : kj < 33554432 := by omega
        replace hkj := hid hkj
        have e1 : ((kj + 1 : Nat) : Int) = (kj : Int) + 1 := by omega
        have e2 : ((kj + 2 : Nat) : Int) = (kj : Int) + 2 := by omega
        simp only [e1, e2] at FN GN
        clear FL GL d fz h hl1 e1 e2
        go_wp2
        go_roundw
        case rel => exact ⟨j + 1, by omega, by go_num, by have := hkj.out; go_num, FN, GN⟩
        case measure => simp [intOf]; omega
      · have hk8 : j = cs.length := by omega
        subst hk8
        rw [markedD_end] at FL
        go_wp2
        go_ret
        exact ⟨rfl, FL.out, GL.out⟩
theorem markDo (v : Value) (cs : List Rcd) (k : Nat) (z : Int) (hz : z = (k : Int)) (lo hi : Nat) (w : World) (h : OD w lo hi v cs) (hl : cs.length ≤ 1048576) (hk : k ≤ 16777216) :
    Calls Try.prog 22 #[v, .int .i64 z] w fun e w' => e = .returned (.int .i64 ((k + cs.length * 3 : Nat) : Int)) ∧ OD w' lo hi v (marksD k cs.length) ∧ Ins lo hi w w' := by
  subst hz
  exact (markDx v cs k lo w h.1 hl hk).mono fun _ _ ⟨he, hO, hG⟩ => ⟨he, ⟨hO, h.2⟩, Ins.of_grown hG fun _ e => h.blk e⟩
set_option maxHeartbeats 1000000 in
set_option maxRecDepth 100000 in
theorem heldD (v : Value) (n k : Nat) (w : World) (h : RdD w v (marksD k n)) (hl : n ≤ 1048576) (hk : k ≤ 16777216) :
    Calls Try.prog 23 #[v, .int .i64 (k : Int)] w fun e w' => e = .returned (.int .i64 ((k + n * 3 : Nat) : Int)) ∧ w' = w := by
  obtain ⟨a, cap, rfl, _, _, hcs⟩ := h.parts
  rw [marksD_len] at *
  clear h
  go_enter Try.func23, Try.ntmps23
  go_wp2
  go_loop [1, 5] (fun kk i => ∃ j : Nat, j ≤ n ∧ i = .int .i64 j ∧ kk = .int .i64 (k + j * 3 : Nat)) (fun _ i => n - (intOf i).toNat)
  case atStart => exact ⟨0, by omega, rfl, rfl⟩
  case round =>
    obtain ⟨j, hj, rfl, rfl⟩ := hrel
    by_cases hlt : j < n
    · obtain ⟨b, o, rfl, hc⟩ := hcs j (by rw [marksD_len]; exact hlt)
      clear hcs
      rw [marksD_at] at hc
      obtain ⟨c0, c1, c2⟩ := d_cells hc
      have I2 := idx_di b o n cap j hlt
      obtain ⟨kj, hkj⟩ : ∃ kj, kj = k + j * 3 := ⟨_, rfl⟩
      rw [← hkj] at c0 c1 c2 ⊢
      have b0 : kj < 33554432 := by omega
      replace hkj := hid hkj
      have e1 : ((kj + 1 : Nat) : Int) = (kj : Int) + 1 := by omega
      have e2 : ((kj + 2 : Nat) : Int) = (kj : Int) + 2 := by omega
      simp only [e1, e2] at c1 c2
      clear e1 e2 hc
      go_wp2
      go_round
      case rel => exact ⟨j + 1, by omega, by go_num, by have := hkj.out; go_num⟩
      case measure => simp [intOf]; omega
    · have hk8 : j = n := by omega
      subst hk8
      go_wp2
      go_ret
      exact ⟨rfl, rfl⟩
end Go.Proofs.Ytemkokgejohlbaa.W
