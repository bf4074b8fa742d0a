/-
  Rings that are the same: what the model's SameRings answers.
-/
import Derived.Test.YtcmafbgfdddnnajSrsW
namespace Go.Proofs.Ytcmafbgfdddnnaj.W
open Go.ChangeShapes Go.WideShapes Go.ChangeAt Go.RowKit
open Go.Proofs.Ytcmafbgfdddnnaj.M

theorem idx_ks (b o n c j : Nat) (hj : j < n) (w : World) : (Instr.indexAt 32 (.slice (some ⟨b, o, none⟩) n c) (.int .i64 (j : Int))).run Try.prog w = .ok (.pointer (some ⟨b, o + j * 2, none⟩)) w := by
  have hs : ∀ w : World, (sizeOf (Try.prog.elem 32)).run Try.prog w = .ok 2 w := fun _ => by kernel_rfl
  rw [run_indexAt_slice (P := Try.prog) w 32 _ n c .i64 (j : Int) (by kernel_rfl)]
  simp [hs, hj, Result.andThen, Addr.add_lit]
set_option maxHeartbeats 2000000 in
set_option maxRecDepth 100000 in
theorem ssr (p q : Int) (va vb : Value) (ks ms : List (Int × List Nat)) (w : World) (ha : RdK w va ks) (hb : RdK w vb ms) (hl : ks.length ≤ 1048576) :
    Calls Try.prog 33 #[.agg #[.int .i64 p, va], .agg #[.int .i64 q, vb]] w fun e w' => e = .returned (.bool (smR p q ks ms)) ∧ Below w.heap.size w w' := by
  have HA := hid ha
  have HB := hid hb
  obtain ⟨a, ca, rfl, -, -, -⟩ := ha.parts
  obtain ⟨b, cb, rfl, -, -, -⟩ := hb.parts
  clear ha hb
  by_cases e : p = q
  · subst e
    by_cases el : ms.length = ks.length
    · have E := hid (show smR p p ks ms = smTo ks ms ks.length by simp [smR, el])
      rw [el]
      replace el := hid el
      go_enter Try.func33, Try.ntmps33
      go_wp2_with fail
      have V1 : Hid (((w.alloc (.cells #[.int .i64 p, .slice a ks.length ca] 34)).alloc (.cells #[.int .i64 p, .slice b ks.length cb] 34)).heap[w.heap.size]? = some (.cells #[.int .i64 p, .slice a ks.length ca] 34)) := hid (heap_alloc2_old w _ _)
      have V2 : Hid (((w.alloc (.cells #[.int .i64 p, .slice a ks.length ca] 34)).alloc (.cells #[.int .i64 p, .slice b ks.length cb] 34)).heap[w.heap.size + 1]? = some (.cells #[.int .i64 p, .slice b ks.length cb] 34)) := hid (heap_alloc2_new w _ _)
      have B2 := hid (below_alloc2 w (.cells #[.int .i64 p, .slice a ks.length ca] 34) (.cells #[.int .i64 p, .slice b ks.length cb] 34))
      replace HA := hid (HA.out.below B2.out)
      replace HB := hid (HB.out.below B2.out)
      generalize (w.alloc (.cells #[.int .i64 p, .slice a ks.length ca] 34)).alloc (.cells #[.int .i64 p, .slice b ks.length cb] 34) = w2 at *
      generalize w.heap.size + 1 = g2 at *
      obtain ⟨g1, hg1⟩ : ∃ g, g = w.heap.size := ⟨_, rfl⟩
      rw [← hg1] at V1 ⊢
      replace hg1 := hid hg1
      go_loopw [5] (fun i wr => ∃ k : Nat, k ≤ ks.length ∧ i = .int .i64 k ∧ Hid (smTo ks ms k = true) ∧ Hid (Below w2.heap.size w2 wr)) (fun i _ => ks.length - (intOf i).toNat)
      case atStart => exact ⟨0, by omega, rfl, hid (by simp [smTo]), hid (Below.refl _ _)⟩
      case round =>
        obtain ⟨k, hk, rfl, T, BL⟩ := hrel
        have V1' := var_below BL.out V1.out
        have V2' := var_below BL.out V2.out
        obtain ⟨-, f1, -, -⟩ := var2_facts V1'
        obtain ⟨-, f2, -, -⟩ := var2_facts V2'
        by_cases hlt : k < ks.length
        · obtain ⟨a', ca', e, -, -, hcs⟩ := (HA.out.below BL.out).parts
          cases e
          obtain ⟨ba, oa, ua, rfl, q1, q2, q3⟩ := hcs k hlt
          have hlm : k < ms.length := by rw [el.out]; exact hlt
          obtain ⟨b', cb', e, -, -, hcs'⟩ := (HB.out.below BL.out).parts
          rw [el.out] at e
          cases e
          obtain ⟨bb, ob, ub, rfl, t1, t2, t3⟩ := hcs' k hlm
          have RU := hid q3
          have RV := hid t3
          have TS := hid (smTo_succ ks ms k hlt hlm)
          have I1 := idx_ks ba oa ks.length ca k hlt
          have I2 := idx_ks bb ob ks.length cb k hlt
          have k0 : (0 : Int) ≤ (k : Int) := by omega
          have k1 : (k : Int) < (ks.length : Int) := by omega
          clear q3 hcs t3 hcs' V1' V2'
          go_wp2_with fail
          refine wp_region_held_drew (S := fun w' => Below wr.heap.size wr w') (by kernel_rfl) (Below.refl _ _).drew (fun hH => ?_)
          refine wpAnyH_take (i := 0) (v := .pointer (some ⟨g1, 1, none⟩)) (by simp only [List.getElem?_toArray, List.getElem?_cons_zero]; rfl) (by kernel_rfl) (by kernel_rfl) (by kernel_rfl) (by intro _ _ _ h; exact h) (Or.inl ⟨by rfl, fun w hS => by go_simp⟩) hH ?_
          simp only [Act.put, List.setIfInBounds_toArray, List.set_cons_zero, List.set_cons_succ]
          refine wpAnyH_take (i := 1) (v := .slice (some ⟨ba, oa, none⟩) ks.length ca) (by simp only [List.getElem?_toArray, List.getElem?_cons_succ, List.getElem?_cons_zero]; rfl) (by kernel_rfl) (by kernel_rfl) (by kernel_rfl) (by intro _ _ _ h; exact h) (Or.inl ⟨by rfl, fun w hS => by (have y0 := cell_kept hS f1; go_simp)⟩) hH ?_
          simp only [Act.put, List.setIfInBounds_toArray, List.set_cons_zero, List.set_cons_succ]
          refine wpAnyH_take (i := 2) (v := .int .i64 (k : Int)) (by simp only [List.getElem?_toArray, List.getElem?_cons_succ, List.getElem?_cons_zero]; rfl) (by kernel_rfl) (by kernel_rfl) (by kernel_rfl) (by intro _ _ _ h; exact h) (Or.inl ⟨by rfl, fun w hS => by go_simp⟩) hH ?_
          simp only [Act.put, List.setIfInBounds_toArray, List.set_cons_zero, List.set_cons_succ]
          refine wpAnyH_take (i := 3) (v := .pointer (some ⟨ba, oa + k * 2, none⟩)) (by simp only [List.getElem?_toArray, List.getElem?_cons_succ, List.getElem?_cons_zero]; rfl) (by kernel_rfl) (by kernel_rfl) (by kernel_rfl) (by intro _ _ _ h; exact h) (Or.inl ⟨by rfl, fun w hS => by go_simp⟩) hH ?_
          simp only [Act.put, List.setIfInBounds_toArray, List.set_cons_zero, List.set_cons_succ]
          refine wpAnyH_take (i := 4) (v := .pointer (some ⟨g2, 1, none⟩)) (by simp only [List.getElem?_toArray, List.getElem?_cons_succ, List.getElem?_cons_zero]; rfl) (by kernel_rfl) (by kernel_rfl) (by kernel_rfl) (by intro _ _ _ h; exact h) (Or.inl ⟨by rfl, fun w hS => by go_simp⟩) hH ?_
          simp only [Act.put, List.setIfInBounds_toArray, List.set_cons_zero, List.set_cons_succ]
          refine wpAnyH_take (i := 5) (v := .slice (some ⟨bb, ob, none⟩) ks.length cb) (by simp only [List.getElem?_toArray, List.getElem?_cons_succ, List.getElem?_cons_zero]; rfl) (by kernel_rfl) (by kernel_rfl) (by kernel_rfl) (by intro _ _ _ h; exact h) (Or.inl ⟨by rfl, fun w hS => by (have y0 := cell_kept hS f2; go_simp)⟩) hH ?_
          simp only [Act.put, List.setIfInBounds_toArray, List.set_cons_zero, List.set_cons_succ]
          refine wpAnyH_take (i := 6) (v := .int .i64 (k : Int)) (by simp only [List.getElem?_toArray, List.getElem?_cons_succ, List.getElem?_cons_zero]; rfl) (by kernel_rfl) (by kernel_rfl) (by kernel_rfl) (by intro _ _ _ h; exact h) (Or.inl ⟨by rfl, fun w hS => by go_simp⟩) hH ?_
          simp only [Act.put, List.setIfInBounds_toArray, List.set_cons_zero, List.set_cons_succ]
          refine wpAnyH_take (i := 7) (v := .pointer (some ⟨bb, ob + k * 2, none⟩)) (by simp only [List.getElem?_toArray, List.getElem?_cons_succ, List.getElem?_cons_zero]; rfl) (by kernel_rfl) (by kernel_rfl) (by kernel_rfl) (by intro _ _ _ h; exact h) (Or.inl ⟨by rfl, fun w hS => by go_simp⟩) hH ?_
          simp only [Act.put, List.setIfInBounds_toArray, List.set_cons_zero, List.set_cons_succ]
          refine wpAnyH_ready (rs := [8]) (by kernel_rfl) (by simp) ?_
          refine AllReadyH.cons (by simp only [List.getElem?_toArray, List.getElem?_cons_succ, List.getElem?_cons_zero]; rfl) (fun K hK => ?_) AllReadyH.nil
          go_simp
          refine (l4same _ _ _ _ _ _ _ _ _ _ _ (cell_kept hH q1) (cell_kept hH q2) (cell_kept hH t1) (cell_kept hH t2) (RU.out.below hH) (RV.out.below hH)).mono ?_
          rintro e x8 ⟨rfl, hM⟩
          refine hK.out _ _ (hH.trans (hM.mono hH.size)) (fun hH => ?_)
          clear hK K
          clear hM
          have EB : sm1 ((ks[k]).1, (ks[k]).2) ((ms[k]).1, (ms[k]).2) = sm1 ks[k] ms[k] := rfl
          rw [EB]
          clear EB
          cases hs : sm1 ks[k] ms[k]
          · refine wpAnyH_take (i := 9) (v := .bool true) (by simp only [List.getElem?_toArray, List.getElem?_cons_succ, List.getElem?_cons_zero]; rfl) (by kernel_rfl) (by kernel_rfl) (by kernel_rfl) (by intro _ _ _ h; exact h) (Or.inl ⟨by rfl, fun w hS => by go_simp⟩) hH ?_
            simp only [Act.put, List.setIfInBounds_toArray, List.set_cons_zero, List.set_cons_succ]
            refine wpAnyH_done (by kernel_rfl) ?_ _
            have BB := hid (B2.out.trans (((BL.out.trans (hH.mono BL.out.size))).mono B2.out.size))
            have E2 := hid (show smR p p ks ms = false by rw [E.out]; exact smTo_no ks ms k _ hlt (by rw [TS.out, hs]; simp))
            clear hH
            go_wp2
            go_ret
            exact ⟨congrArg (fun z => Ending.returned (.bool z)) E2.out.symm, BB.out⟩
          · refine wpAnyH_take (i := 9) (v := .bool false) (by simp only [List.getElem?_toArray, List.getElem?_cons_succ, List.getElem?_cons_zero]; rfl) (by kernel_rfl) (by kernel_rfl) (by kernel_rfl) (by intro _ _ _ h; exact h) (Or.inl ⟨by rfl, fun w hS => by go_simp⟩) hH ?_
            simp only [Act.put, List.setIfInBounds_toArray, List.set_cons_zero, List.set_cons_succ]
            refine wpAnyH_done (by kernel_rfl) ?_ _
            have BB := hid (BL.out.trans (hH.mono BL.out.size))
            have T2 := hid (show smTo ks ms (k + 1) = true by rw [TS.out, hs, T.out]; rfl)
            clear hH
            go_wp2
            go_roundw
            case rel => exact ⟨k + 1, hlt, by go_num, T2, BB⟩
            case measure => simp [intOf]; omega
        · have hke : k = ks.length := by omega
          subst hke
          have BB := hid (B2.out.trans (BL.out.mono B2.out.size))
          have E2 := hid (show smR p p ks ms = true by rw [E.out]; exact T.out)
          go_wp2
          go_ret
          exact ⟨congrArg (fun z => Ending.returned (.bool z)) E2.out.symm, BB.out⟩
    · have E := hid (show smR p p ks ms = false by simp [smR]; intro h; exact absurd h.symm el)
      have ne : ((ks.length : Int) != (ms.length : Int)) = true := by rw [bne_iff_ne]; omega
      replace el := hid el
      go_enter Try.func33, Try.ntmps33
      go_wp2
      go_ret
      exact ⟨congrArg (fun z => Ending.returned (.bool z)) E.out.symm, below_alloc2 w _ _⟩
  · have E := hid (show smR p q ks ms = false by simp [smR, e])
    have ne : (p != q) = true := by rw [bne_iff_ne]; exact e
    replace e := hid e
    go_enter Try.func33, Try.ntmps33
    go_wp2
    go_ret
    exact ⟨congrArg (fun z => Ending.returned (.bool z)) E.out.symm, below_alloc2 w _ _⟩
end Go.Proofs.Ytcmafbgfdddnnaj.W
