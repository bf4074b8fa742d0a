/-
  What ViewFault, Beats and l8Find of the model answer.
-/
import Derived.Test.YtemkokgejohlbaaVwM
import Derived.Test.YtemkokgejohlbaaVwD
namespace Go.Proofs.Ytemkokgejohlbaa.W
open Go.ChangeShapes Go.WideShapes Go.ChangeAt Go.RowKit
open Go.Proofs.Ytemkokgejohlbaa.M

theorem ret_vi {a b : Int} (h : a = b) : Ending.returned (.int .i64 a) = .returned (.int .i64 b) := by rw [h]
theorem ret_vb {a b : Bool} (h : a = b) : Ending.returned (.bool a) = .returned (.bool b) := by rw [h]
set_option maxHeartbeats 2000000 in
set_option maxRecDepth 100000 in
theorem svf (v : Value) (cs : List Clm) (w : World) (h : RdC w v cs) :
    Calls Try.prog 13 #[v] w fun e w' => e = .returned (.int .i64 (vF cs)) ∧ Below w.heap.size w w' := by
  have H := hid h
  obtain ⟨a, cap, rfl, hc, hm, -⟩ := h.parts
  clear h
  have hmx : cs.length ≤ 9223372036854775807 := by unfold maxLen at hm; omega
  clear hc hm
  by_cases hl : 4 < cs.length
  · have E := hid (vF_many hl)
    go_enter Try.func13, Try.ntmps13
    go_wp2
    go_ret
    exact ⟨ret_vi E.out.symm, Below.refl _ _⟩
  · have HL := hid hl
    go_enter Try.func13, Try.ntmps13
    go_wp2_with fail
    go_loopw [3, 4] (fun i u wr => ∃ k : Nat, ∃ u4 : Value, k ≤ cs.length ∧ i = .int .i64 k ∧ u = u4 ∧ Hid (Below w.heap.size w wr) ∧ Hid (∀ j (hj : j < cs.length), j < k → clC cs[j] = 0)) (fun i _ _ => cs.length - (intOf i).toNat)
    case atStart => exact ⟨0, _, by omega, rfl, rfl, hid (Below.refl _ _), hid fun j _ q => by omega⟩
    case round =>
      obtain ⟨k, u4, hk, rfl, rfl, BL, OK⟩ := hrel
      by_cases hlt : k < cs.length
      · obtain ⟨a', cap', e, -, -, hcs⟩ := (H.out.below BL.out).parts
        cases e
        obtain ⟨b, o, rfl, q1⟩ := hcs k hlt
        obtain ⟨c0, c1, c2, c3⟩ := c_cells q1
        have I1 := idx_ci b o cs.length cap k hlt
        have k0 : (0 : Int) ≤ (k : Int) := by omega
        have k1 : (k : Int) < (cs.length : Int) := by omega
        have VR := hid fun q => vF_range hl k hlt q
        obtain ⟨t, ht⟩ : ∃ t, t = clC cs[k] := ⟨_, rfl⟩
        have ht2 := ht
        unfold clC at ht2
        obtain ⟨M, hM⟩ : ∃ M, M = cs[k] := ⟨_, rfl⟩
        rw [← hM] at c0 c1 c2 c3 ht2
        replace ht := hid ht
        clear q1 hcs hM hl
        go_wp2_with fail
        refine (sclf _ _ _ _ _).mono ?_
        rintro e w1 ⟨rfl, hB⟩
        replace BL := hid (BL.out.trans (hB.mono BL.out.size))
        rw [← ht2]
        clear hB c0 c1 c2 c3 ht2
        by_cases h0 : t = 0
        · subst h0
          have OK2 := hid (show ∀ j (hj : j < cs.length), j < k + 1 → clC cs[j] = 0 from fun j hj q => by
            rcases Nat.lt_or_ge j k with q2 | q2
            · exact OK.out j hj q2
            · obtain rfl : j = k := by omega
              exact ht.out.symm)
          go_wp2
          go_roundw
          case rel => exact ⟨k + 1, _, hlt, by go_num, rfl, BL, OK2⟩
          case measure => simp [intOf]; omega
        · have E := hid (VR.out (by rw [← ht.out]; exact h0))
          have h3 : t = 3 := by
            rcases clC_q cs[k] with q | q
            · rw [← ht.out] at q; exact absurd q h0
            · rw [← ht.out] at q; exact q
          subst h3
          go_wp2
          go_ret
          exact ⟨ret_vi E.out.symm, BL.out⟩
      · have AL := hid (show ∀ j (hj : j < cs.length), clC cs[j] = 0 from fun j hj => OK.out j hj (by omega))
        have HD := hid hl
        clear OK hl
        go_wp2_with fail
        go_loopw [5] (fun i wr2 => ∃ k : Nat, 1 ≤ k ∧ (k ≤ cs.length ∨ k = 1) ∧ i = .int .i64 k ∧ Hid (Below w.heap.size w wr2) ∧ Hid (∀ j (h1 : j + 1 < cs.length), j + 1 < k → cs[j].n < cs[j + 1].n)) (fun i _ => cs.length - (intOf i).toNat)
        case atStart => exact ⟨1, by omega, .inr rfl, rfl, BL, hid fun j _ h => by omega⟩
        case round =>
          clear BL
          obtain ⟨k, hk1, hk, rfl, HB, HA⟩ := hrel
          by_cases hlt : k < cs.length
          · obtain ⟨a', cap', e, -, -, hcs⟩ := (H.out.below HB.out).parts
            cases e
            obtain ⟨b, o, rfl, q1⟩ := hcs k hlt
            obtain ⟨b', o', eb, q2⟩ := hcs (k - 1) (by omega)
            cases eb
            obtain ⟨m, hm⟩ : ∃ m, m = k - 1 := ⟨_, rfl⟩
            obtain rfl : k = m + 1 := by omega
            simp only [Nat.add_sub_cancel] at q2
            obtain ⟨c0, -, -, -⟩ := c_cells q1
            obtain ⟨d0, -, -, -⟩ := c_cells q2
            have I1 := idx_ci b o cs.length cap (m + 1) hlt
            have I2 := idx_ci b o cs.length cap m (by omega)
            clear hcs hm q1 q2
            by_cases hd : cs[m + 1].n ≤ cs[m].n
            · have E := hid (vF_form HD.out AL.out m hlt hd)
              go_wp2
              go_quiet (fail)
              go_wp2
              go_ret
              exact ⟨ret_vi E.out.symm, below_drewN HB.out _⟩
            · have E := hid (show cs[m].n < cs[m + 1].n by omega)
              go_wp2
              go_quiet (fail)
              go_wp2
              go_roundw
              case rel => exact ⟨m + 1 + 1, by omega, .inl (by omega), by go_num, hid (below_drewN HB.out _), hid fun j h1 h2 => by
                rcases Nat.lt_or_ge j m with q | q
                · exact HA.out j h1 (by omega)
                · obtain rfl : j = m := by omega
                  exact E.out⟩
              case measure => simp [intOf]; omega
          · have E := hid (vF_rise HD.out AL.out fun j h1 => HA.out j h1 (by omega))
            have hnl : ¬ (k : Int) < (cs.length : Int) := by omega
            go_wp2
            go_ret
            exact ⟨ret_vi E.out.symm, HB.out⟩
end Go.Proofs.Ytemkokgejohlbaa.W
