/-
  Two lists of records that are the same: what SameRecords of the model and of the program answers.
-/
import Derived.Test.YtlbkhjmenglefaaRcQ
namespace Go.Proofs.Ytlbkhjmenglefaa.W
open Go.ChangeShapes Go.WideShapes Go.ChangeAt Go.RowKit
open Go.Proofs.Ytlbkhjmenglefaa.M

set_option maxHeartbeats 2000000 in
set_option maxRecDepth 100000 in
theorem s10e (va vb : Value) (cs ds : List Rcd) (w : World) (ha : RdD w va cs) (hb : RdD w vb ds) :
    Calls Try.prog 5 #[va, vb] w fun e w' => e = .returned (.bool (srA cs ds)) ∧ Below w.heap.size w w' := by
  have HA := hid ha
  have HB := hid hb
  obtain ⟨a, ca, rfl, hc, hm, -⟩ := ha.parts
  obtain ⟨b, cb, rfl, hc', hm', -⟩ := hb.parts
  have hmx : cs.length ≤ 9223372036854775807 := by unfold maxLen at hm; omega
  have hmy : ds.length ≤ 9223372036854775807 := by unfold maxLen at hm'; omega
  clear ha hb hc hm hc' hm'
  by_cases el : ds.length = cs.length
  · have E := hid (show srA cs ds = srTo cs ds cs.length by rw [srA, el]; simp)
    rw [el]
    replace el := hid el
    go_enter Try.func5, Try.ntmps5
    go_wp2_with fail
    go_loopw [5] (fun s5 wr => ∃ k : Nat,  k ≤ cs.length ∧ s5 = .int .i64 k ∧ Hid (Below w.heap.size w wr) ∧ Hid (srTo cs ds k = true)) (fun s5 _ => cs.length - (intOf s5).toNat)
    case atStart => exact ⟨0, by omega, rfl, hid (Below.refl _ _), hid (by simp [srTo])⟩
    case round =>
      obtain ⟨k, hk, rfl, BL, T⟩ := hrel
      by_cases hlt : k < cs.length
      · obtain ⟨a', ca', e, -, -, hcs⟩ := (HA.out.below BL.out).parts
        cases e
        obtain ⟨ba, oa, rfl, q1⟩ := hcs k hlt
        have hlm : k < ds.length := by rw [el.out]; exact hlt
        obtain ⟨b', cb', e, -, -, hcs'⟩ := (HB.out.below BL.out).parts
        rw [el.out] at e
        cases e
        obtain ⟨bb, ob, rfl, t1⟩ := hcs' k hlm
        have TS := hid (srTo_succ cs ds k hlt hlm)
        have I1 := idx_di ba oa cs.length ca k hlt
        have I2 := idx_di bb ob cs.length cb k hlt
        obtain ⟨A, hA⟩ : ∃ M, M = cs[k] := ⟨_, rfl⟩
        obtain ⟨B, hB'⟩ : ∃ M, M = ds[k] := ⟨_, rfl⟩
        rw [← hA] at q1 TS
        rw [← hB'] at t1 TS
        obtain ⟨c0, c1, c2⟩ := d_cells q1
        obtain ⟨d0, d1, d2⟩ := d_cells t1
        have NE := neq_rcd A B
        obtain ⟨t, ht⟩ : ∃ t, t = sr1 A B := ⟨_, rfl⟩
        rw [← ht] at TS NE
        replace ht := hid ht
        clear q1 hcs t1 hcs' hA hB'
        cases t
        · have E2 := hid (show srA cs ds = false by rw [E.out]; exact srTo_no cs ds k _ hlt (by rw [TS.out]; simp))
          rw [Bool.not_false] at NE
          go_wp2
          go_quiet (fail)
          go_wp2
          go_ret
          exact ⟨ret_db E2.out.symm, below_drewN BL.out _⟩
        · have T2 := hid (show srTo cs ds (k + 1) = true by rw [TS.out, T.out]; rfl)
          rw [Bool.not_true] at NE
          go_wp2
          go_quiet (fail)
          go_wp2
          go_roundw
          case rel => exact ⟨k + 1, hlt, by go_num, hid (below_drewN BL.out _), T2⟩
          case measure => simp [intOf]; omega
      · have hke : k = cs.length := by omega
        subst hke
        have E2 := hid (show srA cs ds = true by rw [E.out]; exact T.out)
        go_wp2
        go_ret
        exact ⟨ret_db E2.out.symm, BL.out⟩
  · have E := hid (show srA cs ds = false by rw [srA, beq_eq_false_iff_ne.2 (fun h => el h.symm)]; rfl)
    have ne : ((cs.length : Int) != (ds.length : Int)) = true := by rw [bne_iff_ne]; omega
    replace el := hid el
    go_enter Try.func5, Try.ntmps5
    go_wp2
    go_ret
    exact ⟨ret_db E.out.symm, Below.refl _ _⟩
set_option maxHeartbeats 2000000 in
set_option maxRecDepth 100000 in
theorem eqlD (va vb : Value) (cs ds : List Rcd) (w : World) (ha : RdD w va cs) (hb : RdD w vb ds) :
    Calls Try.prog 10 #[va, vb] w fun e w' => e = .returned (.bool (srA cs ds)) ∧ Below w.heap.size w w' := by
  have HA := hid ha
  have HB := hid hb
  obtain ⟨a, ca, rfl, hc, hm, -⟩ := ha.parts
  obtain ⟨b, cb, rfl, hc', hm', -⟩ := hb.parts
  have hmx : cs.length ≤ 9223372036854775807 := by unfold maxLen at hm; omega
  have hmy : ds.length ≤ 9223372036854775807 := by unfold maxLen at hm'; omega
  clear ha hb hc hm hc' hm'
  by_cases el : ds.length = cs.length
  · have E := hid (show srA cs ds = srTo cs ds cs.length by rw [srA, el]; simp)
    rw [el]
    replace el := hid el
    go_enter Try.func10, Try.ntmps10
    go_wp2_with fail
    go_loopw [5, 13] (fun s5 s13 wr => ∃ k : Nat, ∃ u5 : Value, k ≤ cs.length ∧ s13 = .int .i64 k ∧ s5 = u5 ∧ Hid (Below w.heap.size w wr) ∧ Hid (srTo cs ds k = true)) (fun s5 s13 _ => cs.length - (intOf s13).toNat)
    case atStart => exact ⟨0, _, by omega, rfl, rfl, hid (Below.refl _ _), hid (by simp [srTo])⟩
    case round =>
      obtain ⟨k, u5, hk, rfl, rfl, BL, T⟩ := hrel
      by_cases hlt : k < cs.length
      · obtain ⟨a', ca', e, -, -, hcs⟩ := (HA.out.below BL.out).parts
        cases e
        obtain ⟨ba, oa, rfl, q1⟩ := hcs k hlt
        have hlm : k < ds.length := by rw [el.out]; exact hlt
        obtain ⟨b', cb', e, -, -, hcs'⟩ := (HB.out.below BL.out).parts
        rw [el.out] at e
        cases e
        obtain ⟨bb, ob, rfl, t1⟩ := hcs' k hlm
        have TS := hid (srTo_succ cs ds k hlt hlm)
        have I1 := idx_di ba oa cs.length ca k hlt
        have I2 := idx_di bb ob cs.length cb k hlt
        obtain ⟨A, hA⟩ : ∃ M, M = cs[k] := ⟨_, rfl⟩
        obtain ⟨B, hB'⟩ : ∃ M, M = ds[k] := ⟨_, rfl⟩
        rw [← hA] at q1 TS
        rw [← hB'] at t1 TS
        obtain ⟨c0, c1, c2⟩ := d_cells q1
        obtain ⟨d0, d1, d2⟩ := d_cells t1
        have NE := neq_rcd A B
        obtain ⟨t, ht⟩ : ∃ t, t = sr1 A B := ⟨_, rfl⟩
        rw [← ht] at TS NE
        replace ht := hid ht
        clear q1 hcs t1 hcs' hA hB'
        cases t
        · have E2 := hid (show srA cs ds = false by rw [E.out]; exact srTo_no cs ds k _ hlt (by rw [TS.out]; simp))
          rw [Bool.not_false] at NE
          go_wp2
          go_quiet (fail)
          go_wp2
          go_ret
          exact ⟨ret_db E2.out.symm, below_drewN BL.out _⟩
        · have T2 := hid (show srTo cs ds (k + 1) = true by rw [TS.out, T.out]; rfl)
          rw [Bool.not_true] at NE
          go_wp2
          go_quiet (fail)
          go_wp2
          go_roundw
          case rel => exact ⟨k + 1, _, hlt, by go_num, rfl, hid (below_drewN BL.out _), T2⟩
          case measure => simp [intOf]; omega
      · have hke : k = cs.length := by omega
        subst hke
        have E2 := hid (show srA cs ds = true by rw [E.out]; exact T.out)
        go_wp2
        go_ret
        exact ⟨ret_db E2.out.symm, BL.out⟩
  · have E := hid (show srA cs ds = false by rw [srA, beq_eq_false_iff_ne.2 (fun h => el h.symm)]; rfl)
    have ne : ((cs.length : Int) != (ds.length : Int)) = true := by rw [bne_iff_ne]; omega
    replace el := hid el
    go_enter Try.func10, Try.ntmps10
    go_wp2
    go_ret
    exact ⟨ret_db E.out.symm, Below.refl _ _⟩
set_option maxRecDepth 100000 in
theorem i10e (va vb : Value) (cs ds : List Rcd) (w : World) (ha : RdD w va cs) (hb : RdD w vb ds) :
    Calls Try.prog 7 #[va, vb] w fun e w' => e = .returned (.bool (srA cs ds)) ∧ Below w.heap.size w w' := by
  have HA := hid ha
  have HB := hid hb
  obtain ⟨a, ca, rfl, -, -, -⟩ := ha.parts
  obtain ⟨b, cb, rfl, -, -, -⟩ := hb.parts
  clear ha hb
  go_enter Try.func7, Try.ntmps7
  go_wp2_with fail
  refine (eqlD _ _ cs ds _ HA.out HB.out).mono ?_
  rintro e w' ⟨rfl, hB⟩
  have BB := hid hB
  clear hB
  obtain ⟨t, ht⟩ : ∃ t, t = srA cs ds := ⟨_, rfl⟩
  rw [← ht]
  replace ht := hid ht
  go_wp2
  go_ret
  exact ⟨ret_db ht.out, BB.out⟩
end Go.Proofs.Ytlbkhjmenglefaa.W
