/-
  The fault of a view: what nodesRise, ViewFault and viewsFault of the program answer.
-/
import Derived.Test.YtemkokgejohlbaaVwS
import Derived.Test.YtemkokgejohlbaaNrsW
import Derived.Test.YtemkokgejohlbaaAppZ
import Derived.Test.YtemkokgejohlbaaClfI
namespace Go.Proofs.Ytemkokgejohlbaa.W
open Go.ChangeShapes Go.WideShapes Go.ChangeAt Go.RowKit
open Go.Proofs.Ytemkokgejohlbaa.M

set_option maxHeartbeats 2000000 in
set_option maxRecDepth 100000 in
theorem ndri (v : Value) (cs : List Clm) (w : World) (h : RdC w v cs) (hl : cs.length ≤ 4) :
    Calls Try.prog 26 #[v] w fun e w' => e = .returned (.bool (risB (nds cs))) ∧ Below w.heap.size w w' := by
  have H := hid h
  obtain ⟨a, cap, rfl, -, -, -⟩ := h.parts
  clear h
  go_enter Try.func26, Try.ntmps26
  go_wp2_with fail
  go_loopw [3, 5, 8] (fun s3 s5 s8 wr => ∃ k : Nat, ∃ u3 u5 : Value, k ≤ cs.length ∧ s8 = .int .i64 k ∧ s3 = u3 ∧ s5 = u5 ∧ Hid (Below w.heap.size w wr) ∧ Hid (OwZ wr w.heap.size u3 ((nds cs).take k))) (fun _ _ i _ => cs.length - (intOf i).toNat)
  case atStart => exact ⟨0, _, _, by omega, rfl, rfl, rfl, hid (Below.refl _ _), hid (by simpa using OwZ.nil w w.heap.size)⟩
  case round =>
    obtain ⟨k, u3, u5, hk, rfl, rfl, rfl, BL, OO⟩ := hrel
    by_cases hlt : k < cs.length
    · obtain ⟨a', cap', e, -, -, hcs⟩ := (H.out.below BL.out).parts
      cases e
      obtain ⟨b, o, rfl, q1⟩ := hcs k hlt
      obtain ⟨c0, c1, c2, c3⟩ := c_cells q1
      have I1 := idx_ci b o cs.length cap k hlt
      have T := hid (show (nds cs).take (k + 1) = (nds cs).take k ++ [cs[k].n] by
        rw [List.take_succ_eq_append_getElem (by rw [nds_len]; exact hlt), nds_at cs k hlt])
      have TL := hid (show ((nds cs).take k).length ≤ 4 by rw [List.length_take, nds_len]; omega)
      obtain ⟨M, hM⟩ : ∃ M, M = cs[k] := ⟨_, rfl⟩
      rw [← hM] at c0 c1 c2 c3 T
      clear q1 hcs hM
      obtain ⟨x, hx⟩ : ∃ x, x = (nds cs).take k := ⟨_, rfl⟩
      rw [← hx] at OO T TL
      clear hx
      obtain ⟨pu, cu, rfl, -, -, -⟩ := OO.out.rd.parts
      have B1 := hid (below_alloc2 wr (.cells #[.int .i64 M.n, .int .i64 M.i, .int .i64 M.s, .int .i64 M.m] 39) (.cells #[.int .i64 M.n] 2))
      have RN := rdZ_one (wr.alloc (.cells #[.int .i64 M.n, .int .i64 M.i, .int .i64 M.s, .int .i64 M.m] 39)) M.n 2
      simp only [World.size_alloc] at RN
      have RN2 := hid RN
      have LA := hid (show x.length + [M.n].length ≤ 4194304 by have := TL.out; simp; omega)
      have O2 := hid (OO.out.below B1.out)
      have S2 := hid (show w.heap.size ≤ ((wr.alloc (.cells #[.int .i64 M.n, .int .i64 M.i, .int .i64 M.s, .int .i64 M.m] 39)).alloc (.cells #[.int .i64 M.n] 2)).heap.size by have := BL.out.size; simp; omega)
      have B2 := hid (BL.out.trans (B1.out.mono BL.out.size))
      clear RN B1 OO
      go_wp2_with (at_builtin; refine list_appZ rfl _ _ rfl _ _ x [M.n] w.heap.size rfl rfl O2.out RN2.out LA.out S2.out ?_; intro v3 w3 hO hG; rw [← T.out] at hO; obtain ⟨pq, cq, rfl, -, -, -⟩ := hO.rd.parts)
      have B3 := hid (B2.out.grown hG S2.out (O2.out.row (Nat.le_refl _)))
      simp only [List.length_take] at hO
      have O3 := hid hO
      clear hO hG c0 c1 c2 c3 I1 O2 S2 B2 RN2
      go_roundw
      case rel => exact ⟨k + 1, _, _, hlt, by go_num, rfl, rfl, B3, O3⟩
      case measure => simp [intOf]; omega
    · have hke : k = cs.length := by omega
      subst hke
      have O3 := hid (show OwZ wr w.heap.size u3 (nds cs) by have := OO.out; rwa [List.take_of_length_le (by rw [nds_len]; exact Nat.le_refl _)] at this)
      obtain ⟨pu, cu, rfl, -, -, -⟩ := O3.out.rd.parts
      clear OO
      go_wp2_with fail
      refine (inrs _ (nds cs) _ O3.out.rd).mono ?_
      rintro e w1 ⟨rfl, hB⟩
      replace BL := hid (BL.out.trans (hB.mono BL.out.size))
      clear hB O3
      obtain ⟨t, ht⟩ : ∃ t, t = risB (nds cs) := ⟨_, rfl⟩
      rw [← ht]
      replace ht := hid ht
      go_wp2
      go_ret
      exact ⟨ret_vb ht.out, BL.out⟩
set_option maxHeartbeats 2000000 in
set_option maxRecDepth 100000 in
theorem ivf (v : Value) (cs : List Clm) (w : World) (h : RdC w v cs) :
    Calls Try.prog 17 #[v] w fun e w' => e = .returned (.int .i64 (vF cs)) ∧ Below w.heap.size w w' := by
  have H := hid h
  obtain ⟨a, cap, rfl, hc, hm, -⟩ := h.parts
  clear h
  have hmx : cs.length ≤ 9223372036854775807 := by unfold maxLen at hm; omega
  clear hc hm
  have V0 := hid (heap_alloc_new w (.cells #[.int .i64 (cs.length : Int), .int .i64 0, .int .i64 4] 44))
  have BB := hid (below_alloc1 w (.cells #[.int .i64 (cs.length : Int), .int .i64 0, .int .i64 4] 44))
  go_enter Try.func17, Try.ntmps17
  go_wp2_with fail
  refine (within1 _ _ _ _ _ V0.out).mono ?_
  rintro e w1 ⟨rfl, hB⟩
  replace BB := hid (BB.out.trans (hB.mono BB.out.size))
  clear V0 hB
  by_cases hl : 4 < cs.length
  · have E := hid (vF_many hl)
    have h0 : inB (cs.length : Int) 0 4 = false := by simp [inB]; omega
    rw [h0]
    go_wp2
    go_ret
    exact ⟨ret_vi E.out.symm, BB.out⟩
  have HL := hid hl
  have h0 : inB (cs.length : Int) 0 4 = true := by simp [inB]; omega
  rw [h0]
  clear h0
  replace H := hid (H.out.below BB.out)
  go_wp2_with fail
  go_loopw [4, 5, 14] (fun s4 s5 i wr => ∃ k : Nat, ∃ u4 u5 : Value, k ≤ cs.length ∧ i = .int .i64 k ∧ s4 = u4 ∧ s5 = u5 ∧ Hid (Below w1.heap.size w1 wr) ∧ Hid (∀ j (hj : j < cs.length), j < k → clC cs[j] = 0)) (fun _ _ i _ => cs.length - (intOf i).toNat)
  case atStart => exact ⟨0, _, _, by omega, rfl, rfl, rfl, hid (Below.refl _ _), hid fun j _ q => by omega⟩
  case round =>
    obtain ⟨k, u4, u5, hk, rfl, rfl, rfl, BL, OK⟩ := hrel
    by_cases hlt : k < cs.length
    · obtain ⟨a', cap', e, -, -, hcs⟩ := (H.out.below BL.out).parts
      cases e
      obtain ⟨b, o, rfl, q1⟩ := hcs k hlt
      obtain ⟨c0, c1, c2, c3⟩ := c_cells q1
      have I1 := idx_ci b o cs.length cap k hlt
      have VR := hid fun q => vF_range hl k hlt q
      obtain ⟨t, ht⟩ : ∃ t, t = clC cs[k] := ⟨_, rfl⟩
      have ht2 := ht
      unfold clC at ht2
      obtain ⟨M, hM⟩ : ∃ M, M = cs[k] := ⟨_, rfl⟩
      rw [← hM] at c0 c1 c2 c3 ht2
      replace ht := hid ht
      clear q1 hcs hM hl
      have B1 := hid (below_alloc1 wr (.cells #[.int .i64 M.n, .int .i64 M.i, .int .i64 M.s, .int .i64 M.m] 39))
      go_wp2_with fail
      refine (iclf _ _ _ _ _).mono ?_
      rintro e w2 ⟨rfl, hB⟩
      replace BL := hid (BL.out.trans ((B1.out.trans (hB.mono B1.out.size)).mono BL.out.size))
      rw [← ht2]
      clear hB c0 c1 c2 c3 ht2 B1
      by_cases h0 : t = 0
      · subst h0
        have OK2 := hid (show ∀ j (hj : j < cs.length), j < k + 1 → clC cs[j] = 0 from fun j hj q => by
          rcases Nat.lt_or_ge j k with q2 | q2
          · exact OK.out j hj q2
          · obtain rfl : j = k := by omega
            exact ht.out.symm)
        go_wp2
        go_roundw
        case rel => exact ⟨k + 1, _, _, hlt, by go_num, rfl, rfl, BL, OK2⟩
        case measure => simp [intOf]; omega
      · have E := hid (VR.out (by rw [← ht.out]; exact h0))
        have h3 : t = 3 := by
          rcases clC_q cs[k] with q | q
          · rw [← ht.out] at q; exact absurd q h0
          · rw [← ht.out] at q; exact q
        subst h3
        go_wp2
        go_ret
        exact ⟨ret_vi E.out.symm, BB.out.trans (BL.out.mono BB.out.size)⟩
    · have AL := hid (show ∀ j (hj : j < cs.length), clC cs[j] = 0 from fun j hj => OK.out j hj (by omega))
      have HD := hid hl
      clear OK hl
      go_wp2_with fail
      refine (ndri _ cs _ (H.out.below BL.out) (by have := HD.out; omega)).mono ?_
      rintro e w2 ⟨rfl, hB⟩
      replace BL := hid (BL.out.trans (hB.mono BL.out.size))
      have E := hid (vF_claims HD.out AL.out)
      clear hB
      obtain ⟨t, ht⟩ : ∃ t, t = risB (nds cs) := ⟨_, rfl⟩
      rw [← ht] at E ⊢
      clear ht
      cases t
      · rw [if_pos rfl] at E
        go_wp2
        go_ret
        exact ⟨ret_vi E.out.symm, BB.out.trans (BL.out.mono BB.out.size)⟩
      · rw [if_neg (by simp)] at E
        go_wp2
        go_ret
        exact ⟨ret_vi E.out.symm, BB.out.trans (BL.out.mono BB.out.size)⟩
end Go.Proofs.Ytemkokgejohlbaa.W
