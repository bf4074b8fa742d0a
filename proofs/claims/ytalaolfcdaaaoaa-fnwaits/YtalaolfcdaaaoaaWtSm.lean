/-
  Two lists of waits that are the same: what SameWaits of the model and of the program answers.
-/
import Derived.Test.YtalaolfcdaaaoaaWtQ
namespace Go.Proofs.Ytalaolfcdaaaoaa.W
open Go.ChangeShapes Go.WideShapes Go.ChangeAt Go.RowKit
open Go.Proofs.Ytalaolfcdaaaoaa.M

set_option maxHeartbeats 2000000 in
set_option maxRecDepth 100000 in
theorem s9e (va vb : Value) (cs ds : List Wai) (w : World) (ha : RdJ w va cs) (hb : RdJ w vb ds) :
    Calls Try.prog 28 #[va, vb] w fun e w' => e = .returned (.bool (swA cs ds)) ∧ Below w.heap.size w w' := by
  have HA := hid ha
  have HB := hid hb
  obtain ⟨a, ca, rfl, hc, hm, -⟩ := ha.parts
  obtain ⟨b, cb, rfl, hc', hm', -⟩ := hb.parts
  have hmx : cs.length ≤ 9223372036854775807 := by unfold maxLen at hm; omega
  have hmy : ds.length ≤ 9223372036854775807 := by unfold maxLen at hm'; omega
  clear ha hb hc hm hc' hm'
  by_cases el : ds.length = cs.length
  · have E := hid (show swA cs ds = swTo cs ds cs.length by rw [swA, el]; simp)
    rw [el]
    replace el := hid el
    go_enter Try.func28, Try.ntmps28
    go_wp2_with fail
    go_loopw [5] (fun s5 wr => ∃ k : Nat,  k ≤ cs.length ∧ s5 = .int .i64 k ∧ Hid (Below w.heap.size w wr) ∧ Hid (swTo cs ds k = true)) (fun s5 _ => cs.length - (intOf s5).toNat)
    case atStart => exact ⟨0, by omega, rfl, hid (Below.refl _ _), hid (by simp [swTo])⟩
    case round =>
      obtain ⟨k, hk, rfl, BL, T⟩ := hrel
      by_cases hlt : k < cs.length
      · obtain ⟨a', ca', e, -, -, hcs⟩ := (HA.out.below BL.out).parts
        cases e
        obtain ⟨ba, oa, rfl, q1⟩ := hcs k hlt
        have hlm : k < ds.length := by rw [el.out]; exact hlt
        obtain ⟨b', cb', e, -, -, hcs'⟩ := (HB.out.below BL.out).parts
        rw [el.out] at e
        cases e
        obtain ⟨bb, ob, rfl, t1⟩ := hcs' k hlm
        have TS := hid (swTo_succ cs ds k hlt hlm)
        have I1 := idx_ji ba oa cs.length ca k hlt
        have I2 := idx_ji bb ob cs.length cb k hlt
        obtain ⟨A, hA⟩ : ∃ M, M = cs[k] := ⟨_, rfl⟩
        obtain ⟨B, hB'⟩ : ∃ M, M = ds[k] := ⟨_, rfl⟩
        rw [← hA] at q1 TS
        rw [← hB'] at t1 TS
        obtain ⟨c0, c1, c2, c3, c4, c5, c6⟩ := j_cells q1
        obtain ⟨d0, d1, d2, d3, d4, d5, d6⟩ := j_cells t1
        have NE := neq_wai A B
        obtain ⟨t, ht⟩ : ∃ t, t = sw1 A B := ⟨_, rfl⟩
        rw [← ht] at TS NE
        replace ht := hid ht
        clear q1 hcs t1 hcs' hA hB'
        cases t
        · have E2 := hid (show swA cs ds = false by rw [E.out]; exact swTo_no cs ds k _ hlt (by rw [TS.out]; simp))
          rw [Bool.not_false] at NE
          go_wp2
          go_quiet (fail)
          go_wp2
          go_ret
          exact ⟨ret_wb E2.out.symm, below_drewN BL.out _⟩
        · have T2 := hid (show swTo cs ds (k + 1) = true by rw [TS.out, T.out]; rfl)
          rw [Bool.not_true] at NE
          go_wp2
          go_quiet (fail)
          go_wp2
          go_roundw
          case rel => exact ⟨k + 1, hlt, by go_num, hid (below_drewN BL.out _), T2⟩
          case measure => simp [intOf]; omega
      · have hke : k = cs.length := by omega
        subst hke
        have E2 := hid (show swA cs ds = true by rw [E.out]; exact T.out)
        go_wp2
        go_ret
        exact ⟨ret_wb E2.out.symm, BL.out⟩
  · have E := hid (show swA cs ds = false by rw [swA, beq_eq_false_iff_ne.2 (fun h => el h.symm)]; rfl)
    have ne : ((cs.length : Int) != (ds.length : Int)) = true := by rw [bne_iff_ne]; omega
    replace el := hid el
    go_enter Try.func28, Try.ntmps28
    go_wp2
    go_ret
    exact ⟨ret_wb E.out.symm, Below.refl _ _⟩
set_option maxHeartbeats 2000000 in
set_option maxRecDepth 100000 in
theorem eqlJ (va vb : Value) (cs ds : List Wai) (w : World) (ha : RdJ w va cs) (hb : RdJ w vb ds) :
    Calls Try.prog 89 #[va, vb] w fun e w' => e = .returned (.bool (swA cs ds)) ∧ Below w.heap.size w w' := by
  have HA := hid ha
  have HB := hid hb
  obtain ⟨a, ca, rfl, hc, hm, -⟩ := ha.parts
  obtain ⟨b, cb, rfl, hc', hm', -⟩ := hb.parts
  have hmx : cs.length ≤ 9223372036854775807 := by unfold maxLen at hm; omega
  have hmy : ds.length ≤ 9223372036854775807 := by unfold maxLen at hm'; omega
  clear ha hb hc hm hc' hm'
  by_cases el : ds.length = cs.length
  · have E := hid (show swA cs ds = swTo cs ds cs.length by rw [swA, el]; simp)
    rw [el]
    replace el := hid el
    go_enter Try.func89, Try.ntmps89
    go_wp2_with fail
    go_loopw [5, 13] (fun s5 s13 wr => ∃ k : Nat, ∃ u5 : Value, k ≤ cs.length ∧ s13 = .int .i64 k ∧ s5 = u5 ∧ Hid (Below w.heap.size w wr) ∧ Hid (swTo cs ds k = true)) (fun s5 s13 _ => cs.length - (intOf s13).toNat)
    case atStart => exact ⟨0, _, by omega, rfl, rfl, hid (Below.refl _ _), hid (by simp [swTo])⟩
    case round =>
      obtain ⟨k, u5, hk, rfl, rfl, BL, T⟩ := hrel
      by_cases hlt : k < cs.length
      · obtain ⟨a', ca', e, -, -, hcs⟩ := (HA.out.below BL.out).parts
        cases e
        obtain ⟨ba, oa, rfl, q1⟩ := hcs k hlt
        have hlm : k < ds.length := by rw [el.out]; exact hlt
        obtain ⟨b', cb', e, -, -, hcs'⟩ := (HB.out.below BL.out).parts
        rw [el.out] at e
        cases e
        obtain ⟨bb, ob, rfl, t1⟩ := hcs' k hlm
        have TS := hid (swTo_succ cs ds k hlt hlm)
        have I1 := idx_ji ba oa cs.length ca k hlt
        have I2 := idx_ji bb ob cs.length cb k hlt
        obtain ⟨A, hA⟩ : ∃ M, M = cs[k] := ⟨_, rfl⟩
        obtain ⟨B, hB'⟩ : ∃ M, M = ds[k] := ⟨_, rfl⟩
        rw [← hA] at q1 TS
        rw [← hB'] at t1 TS
        obtain ⟨c0, c1, c2, c3, c4, c5, c6⟩ := j_cells q1
        obtain ⟨d0, d1, d2, d3, d4, d5, d6⟩ := j_cells t1
        have NE := neq_wai A B
        obtain ⟨t, ht⟩ : ∃ t, t = sw1 A B := ⟨_, rfl⟩
        rw [← ht] at TS NE
        replace ht := hid ht
        clear q1 hcs t1 hcs' hA hB'
        cases t
        · have E2 := hid (show swA cs ds = false by rw [E.out]; exact swTo_no cs ds k _ hlt (by rw [TS.out]; simp))
          rw [Bool.not_false] at NE
          go_wp2
          go_quiet (fail)
          go_wp2
          go_ret
          exact ⟨ret_wb E2.out.symm, below_drewN BL.out _⟩
        · have T2 := hid (show swTo cs ds (k + 1) = true by rw [TS.out, T.out]; rfl)
          rw [Bool.not_true] at NE
          go_wp2
          go_quiet (fail)
          go_wp2
          go_roundw
          case rel => exact ⟨k + 1, _, hlt, by go_num, rfl, hid (below_drewN BL.out _), T2⟩
          case measure => simp [intOf]; omega
      · have hke : k = cs.length := by omega
        subst hke
        have E2 := hid (show swA cs ds = true by rw [E.out]; exact T.out)
        go_wp2
        go_ret
        exact ⟨ret_wb E2.out.symm, BL.out⟩
  · have E := hid (show swA cs ds = false by rw [swA, beq_eq_false_iff_ne.2 (fun h => el h.symm)]; rfl)
    have ne : ((cs.length : Int) != (ds.length : Int)) = true := by rw [bne_iff_ne]; omega
    replace el := hid el
    go_enter Try.func89, Try.ntmps89
    go_wp2
    go_ret
    exact ⟨ret_wb E.out.symm, Below.refl _ _⟩
set_option maxRecDepth 100000 in
theorem i9e (va vb : Value) (cs ds : List Wai) (w : World) (ha : RdJ w va cs) (hb : RdJ w vb ds) :
    Calls Try.prog 27 #[va, vb] w fun e w' => e = .returned (.bool (swA cs ds)) ∧ Below w.heap.size w w' := by
  have HA := hid ha
  have HB := hid hb
  obtain ⟨a, ca, rfl, -, -, -⟩ := ha.parts
  obtain ⟨b, cb, rfl, -, -, -⟩ := hb.parts
  clear ha hb
  go_enter Try.func27, Try.ntmps27
  go_wp2_with fail
  refine (eqlJ _ _ cs ds _ HA.out HB.out).mono ?_
  rintro e w' ⟨rfl, hB⟩
  have BB := hid hB
  clear hB
  obtain ⟨t, ht⟩ : ∃ t, t = swA cs ds := ⟨_, rfl⟩
  rw [← ht]
  replace ht := hid ht
  go_wp2
  go_ret
  exact ⟨ret_wb ht.out, BB.out⟩
end Go.Proofs.Ytalaolfcdaaaoaa.W
