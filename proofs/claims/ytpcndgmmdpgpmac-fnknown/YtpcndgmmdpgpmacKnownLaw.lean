/-
  The law of what is known, out of the contracts of its callees. Generated text.
-/
import Derived.Test.YtpcndgmmdpgpmacDrawKn
import Derived.Test.YtpcndgmmdpgpmacVwNi
import Derived.Test.YtpcndgmmdpgpmacVwFi
import Derived.Test.YtpcndgmmdpgpmacVwSm
namespace Go.Proofs.Ytpcndgmmdpgpmac.W
open Go.ChangeShapes Go.WideShapes Go.ChangeAt Go.RowKit
open Go.Proofs.Ytpcndgmmdpgpmac.M

theorem w3_eq {a b c n : Nat} (h : a + b + c = n) (hn : n ≤ 8) : (wrap64 (wrap64 ((a : Int) + (b : Int)) + (c : Int)) == (n : Int)) = true := by
  rw [beq_iff_eq]
  unfold wrap64
  omega
theorem fldI0 (c : Int) (a : Option Addr) (n k : Nat) (w : World) : (Instr.field 35 (.agg #[.int .i64 c, .slice a n k]) 0).run Try.prog w = .ok (.int .i64 c) w := by kernel_rfl
theorem fldI1 (c : Int) (a : Option Addr) (n k : Nat) (w : World) : (Instr.field 35 (.agg #[.int .i64 c, .slice a n k]) 1).run Try.prog w = .ok (.slice a n k) w := by kernel_rfl
theorem fldV0 (c : Int) (a : Option Addr) (n k : Nat) (w : World) : (Instr.field 75 (.agg #[.int .i64 c, .slice a n k, .bool false]) 0).run Try.prog w = .ok (.int .i64 c) w := by kernel_rfl
theorem clC_st {c : Clm} (h : clC c = 0) : c.s = 0 ∨ c.s = 1 ∨ c.s = 2 := by
  unfold clC clF at h
  split at h
  · rename_i q
    have := q.2.2.1
    simp [inB] at this
    omega
  · cases h
theorem ndw_sum : ∀ (cs : List Clm), (∀ c ∈ cs, clC c = 0) → (ndw cs 0).length + (ndw cs 1).length + (ndw cs 2).length = cs.length
  | [], _ => rfl
  | c :: cs, h => by
    have ih := ndw_sum cs fun x hx => h x (List.mem_cons_of_mem _ hx)
    have hc := clC_st (h c (List.mem_cons_self ..))
    unfold ndw at ih ⊢
    simp only [List.length_map] at ih ⊢
    rcases hc with q | q | q
    · simp only [List.filter_cons, q]
      simp
      omega
    · simp only [List.filter_cons, q]
      simp
      omega
    · simp only [List.filter_cons, q]
      simp
      omega
theorem ni_ok {cs : List Clm} {s : Int} (h : niC cs s = 0) : vF cs = 0 := by
  unfold niC at h
  by_cases q : vF cs = 0
  · exact q
  · rw [if_pos q] at h; exact h
theorem ni_in {cs : List Clm} (h : vF cs = 0) (s : Int) (hs : inB s 0 2 = true) : niC cs s = 0 ∧ niL cs s = ndw cs s :=
  ⟨by rw [niC, if_neg (by simpa using h), hs]; rfl, by rw [niL, if_pos ⟨h, hs⟩]⟩
theorem fc_ok {cs : List Clm} {n : Int} (h : fcC cs n = 0) : ∃ X : Clm, fcL cs n = [X] ∧ X.n = n := by
  unfold fcC at h
  by_cases q : vF cs = 0
  · rw [if_neg (by simpa using q)] at h
    cases hh : hasN cs n
    · rw [hh] at h; cases h
    · obtain ⟨hk, hn⟩ := hasN_yes hh
      refine ⟨cs[lb cs n]'hk, ?_, hn⟩
      rw [fcL, if_pos ⟨q, hh⟩]
      simp [List.getD_eq_getElem?_getD, hk]
  · rw [if_pos q] at h; exact absurd h q
set_option maxHeartbeats 16000000 in
set_option maxRecDepth 100000 in
theorem law_kn (v : Value) (l : List Nat) (w : World) (h : Rd w v l) (y : Byt l) :
    Calls Try.prog 7 #[v] w fun e w' => e = .returned (.bool true) ∧ Below w.heap.size w w' := by
  have RC := hid h
  obtain ⟨q, cap, rfl, _, _, _⟩ := h.parts
  clear h
  by_cases hl : l.length ≤ 1048576
  case neg =>
    go_enter Try.func7, Try.ntmps7
    go_wp2_with (go_at_call 8; go_in)
    go_ret
    exact ⟨rfl, Below.refl _ _⟩
  go_enter Try.func7, Try.ntmps7
  go_wp2_with (go_at_call 8; go_in)
  refine (drNi _ l _ RC.out y hl).mono ?_
  rintro e w1 ⟨u, cs, s, rfl, hV, hc, hB⟩
  obtain ⟨pv, cv, rfl, -, -, -⟩ := hV.parts
  have HV := hid hV
  replace RC := hid (RC.out.below hB)
  have BB := hid hB
  clear hB hV
  go_wp2_with fail
  refine (ini _ cs s _ HV.out (by omega)).mono ?_
  rintro e w2 ⟨u, rfl, hO, hB⟩
  obtain ⟨pn, kn, rfl, -, -, -⟩ := hO.rd.parts
  have HN := hid hO.rd
  clear hO
  obtain ⟨N, hN⟩ : ∃ N, N = niC cs s := ⟨_, rfl⟩
  rw [← hN]
  have hNC := hid hN
  clear hN
  replace HV := hid (HV.out.below hB)
  replace RC := hid (RC.out.below hB)
  replace BB := hid (BB.out.trans (hB.mono BB.out.size))
  clear hB
  have VN := hid (heap_alloc_new w2 (.cells #[.int .i64 N, .slice pn (niL cs s).length kn] 35))
  have hB := below_alloc1 w2 (.cells #[.int .i64 N, .slice pn (niL cs s).length kn] 35)
  replace HV := hid (HV.out.below hB)
  replace HN := hid (HN.out.below hB)
  replace RC := hid (RC.out.below hB)
  replace BB := hid (BB.out.trans (hB.mono BB.out.size))
  clear hB
  go_wp2_with fail
  generalize w2.alloc (.cells #[.int .i64 N, .slice pn (niL cs s).length kn] 35) = w3 at *
  obtain ⟨g5, hg5⟩ : ∃ g, g = w2.heap.size := ⟨_, rfl⟩
  rw [← hg5] at VN ⊢
  clear hg5
  refine (drFc _ l _ RC.out y hl).mono ?_
  rintro e w4 ⟨u, ds, n, rfl, hV, hd, hB⟩
  obtain ⟨pw, cw, rfl, -, -, -⟩ := hV.parts
  replace HV := hid (HV.out.below hB)
  replace HN := hid (HN.out.below hB)
  replace RC := hid (RC.out.below hB)
  replace VN := hid (var_below hB VN.out)
  replace BB := hid (BB.out.trans (hB.mono BB.out.size))
  clear hB
  have HW := hid hV
  clear hV
  go_wp2_with fail
  refine (ifc _ ds n _ HW.out).mono ?_
  rintro e w5 ⟨u, rfl, hO, hB⟩
  obtain ⟨pf, kf, rfl, -, -, -⟩ := hO.rd.parts
  replace HV := hid (HV.out.below hB)
  replace HN := hid (HN.out.below hB)
  replace RC := hid (RC.out.below hB)
  replace HW := hid (HW.out.below hB)
  replace VN := hid (var_below hB VN.out)
  replace BB := hid (BB.out.trans (hB.mono BB.out.size))
  clear hB
  have HF := hid hO.rd
  clear hO
  obtain ⟨F, hF⟩ : ∃ F, F = fcC ds n := ⟨_, rfl⟩
  rw [← hF]
  have hFC := hid hF
  clear hF
  have VF := hid (heap_alloc_new w5 (.cells #[.int .i64 F, .slice pf (fcL ds n).length kf, .bool false] 75))
  have hB := below_alloc1 w5 (.cells #[.int .i64 F, .slice pf (fcL ds n).length kf, .bool false] 75)
  replace HV := hid (HV.out.below hB)
  replace HN := hid (HN.out.below hB)
  replace RC := hid (RC.out.below hB)
  replace HW := hid (HW.out.below hB)
  replace HF := hid (HF.out.below hB)
  replace VN := hid (var_below hB VN.out)
  replace BB := hid (BB.out.trans (hB.mono BB.out.size))
  clear hB
  go_wp2_with fail
  generalize w5.alloc (.cells #[.int .i64 F, .slice pf (fcL ds n).length kf, .bool false] 75) = w5a at *
  obtain ⟨g8, hg8⟩ : ∃ g, g = w5.heap.size := ⟨_, rfl⟩
  rw [← hg8] at VF ⊢
  clear hg8
  refine (drSv _ l _ RC.out y hl).mono ?_
  rintro e w6 ⟨ua, ub, xs, ys, rfl, hA, hBb, ha, hb, hB⟩
  obtain ⟨pa, ca, rfl, -, -, -⟩ := hA.parts
  obtain ⟨pb, cb, rfl, -, -, -⟩ := hBb.parts
  replace HV := hid (HV.out.below hB)
  replace HN := hid (HN.out.below hB)
  replace HW := hid (HW.out.below hB)
  replace HF := hid (HF.out.below hB)
  replace VN := hid (var_below hB VN.out)
  replace VF := hid (var_below hB VF.out)
  replace BB := hid (BB.out.trans (hB.mono BB.out.size))
  clear hB
  have HA := hid hA
  have HB := hid hBb
  clear hA hBb RC
  have hnl : (niL cs s).length ≤ 1048576 := by
    unfold niL
    split
    · have := ndw_len cs s; omega
    · simp
  obtain ⟨n0, n1, -, -⟩ := var2_facts VN.out
  obtain ⟨⟨f0, f1, f2⟩, -⟩ := var3_facts VF.out
  go_wp2
  refine wp_region_held_drew (S := fun w' => Below w6.heap.size w6 w') (by kernel_rfl) (Below.refl _ _).drew (fun hH => ?_)
  generalize w6.drew = y0 at hH ⊢
  refine wpAnyH_take (i := 0) (v := .pointer (some ⟨g5, 0, none⟩)) (by simp only [List.getElem?_toArray, List.getElem?_cons_zero]; rfl) (by kernel_rfl) (by kernel_rfl) (by kernel_rfl) (by intro _ _ _ h; exact h) (Or.inl ⟨by rfl, fun w hS => by go_simp⟩) hH ?_
  simp only [Act.put, List.setIfInBounds_toArray, List.set_cons_zero, List.set_cons_succ]
  refine wpAnyH_take (i := 1) (v := .int .i64 N) (by simp only [List.getElem?_toArray, List.getElem?_cons_succ, List.getElem?_cons_zero]; rfl) (by kernel_rfl) (by kernel_rfl) (by kernel_rfl) (by intro _ _ _ h; exact h) (Or.inl ⟨by rfl, fun w hS => by (have y0 := cell_kept hS n0; go_simp)⟩) hH ?_
  simp only [Act.put, List.setIfInBounds_toArray, List.set_cons_zero, List.set_cons_succ]
  refine wpAnyH_take (i := 2) (v := .slice pv cs.length cv) (by simp only [List.getElem?_toArray, List.getElem?_cons_succ, List.getElem?_cons_zero]; rfl) (by kernel_rfl) (by kernel_rfl) (by kernel_rfl) (by intro _ _ _ h; exact h) (Or.inl ⟨by rfl, fun w hS => by go_simp⟩) hH ?_
  simp only [Act.put, List.setIfInBounds_toArray, List.set_cons_zero, List.set_cons_succ]
  refine wpAnyH_take (i := 3) (v := .int .i64 s) (by simp only [List.getElem?_toArray, List.getElem?_cons_succ, List.getElem?_cons_zero]; rfl) (by kernel_rfl) (by kernel_rfl) (by kernel_rfl) (by intro _ _ _ h; exact h) (Or.inl ⟨by rfl, fun w hS => by go_simp⟩) hH ?_
  simp only [Act.put, List.setIfInBounds_toArray, List.set_cons_zero, List.set_cons_succ]
  refine wpAnyH_ready (rs := [4]) (by kernel_rfl) (by simp) ?_
  refine AllReadyH.cons (by simp only [List.getElem?_toArray, List.getElem?_cons_succ, List.getElem?_cons_zero]; rfl) (fun K hK => ?_) AllReadyH.nil
  go_simp
  refine (sni _ cs s _ ((HV.out.below hH)) (by omega)).mono ?_
  rintro e x4 ⟨vq, rfl, hR, hM⟩
  obtain ⟨pq, kq, rfl, -, -, -⟩ := hR.parts
  rw [← hNC.out]
  refine hK.out _ _ (hH.trans (hM.mono hH.size)) (fun hH => ?_)
  clear hK K
  clear hM hR
  refine wpAnyH_take (i := 5) (v := .int .i64 N) (by simp only [List.getElem?_toArray, List.getElem?_cons_succ, List.getElem?_cons_zero]; rfl) (by kernel_rfl) (by kernel_rfl) (by kernel_rfl) (by intro _ _ _ h; exact h) (Or.inl ⟨by rfl, fun w hS => by (have hf := fldI0 N pq (niL cs s).length kq; go_simp)⟩) hH ?_
  simp only [Act.put, List.setIfInBounds_toArray, List.set_cons_zero, List.set_cons_succ]
  refine wpAnyH_take (i := 6) (v := .bool false) (by simp only [List.getElem?_toArray, List.getElem?_cons_succ, List.getElem?_cons_zero]; rfl) (by kernel_rfl) (by kernel_rfl) (by kernel_rfl) (by intro _ _ _ h; exact h) (Or.inl ⟨by rfl, fun w hS => by go_simp⟩) hH ?_
  simp only [Act.put, List.setIfInBounds_toArray, List.set_cons_zero, List.set_cons_succ]
  refine wpAnyH_take (i := 7) (v := .bool false) (by simp only [List.getElem?_toArray, List.getElem?_cons_succ, List.getElem?_cons_zero]; rfl) (by kernel_rfl) (by kernel_rfl) (by kernel_rfl) (by intro _ _ _ h; exact h) (Or.inl ⟨by rfl, fun w hS => by go_simp⟩) hH ?_
  simp only [Act.put, List.setIfInBounds_toArray, List.set_cons_zero, List.set_cons_succ]
  refine wpAnyH_take (i := 8) (v := .pointer (some ⟨g5, 1, none⟩)) (by simp only [List.getElem?_toArray, List.getElem?_cons_succ, List.getElem?_cons_zero]; rfl) (by kernel_rfl) (by kernel_rfl) (by kernel_rfl) (by intro _ _ _ h; exact h) (Or.inl ⟨by rfl, fun w hS => by go_simp⟩) hH ?_
  simp only [Act.put, List.setIfInBounds_toArray, List.set_cons_zero, List.set_cons_succ]
  refine wpAnyH_take (i := 9) (v := .slice pn (niL cs s).length kn) (by simp only [List.getElem?_toArray, List.getElem?_cons_succ, List.getElem?_cons_zero]; rfl) (by kernel_rfl) (by kernel_rfl) (by kernel_rfl) (by intro _ _ _ h; exact h) (Or.inl ⟨by rfl, fun w hS => by (have y1 := cell_kept hS n1; go_simp)⟩) hH ?_
  simp only [Act.put, List.setIfInBounds_toArray, List.set_cons_zero, List.set_cons_succ]
  refine wpAnyH_take (i := 10) (v := .slice pv cs.length cv) (by simp only [List.getElem?_toArray, List.getElem?_cons_succ, List.getElem?_cons_zero]; rfl) (by kernel_rfl) (by kernel_rfl) (by kernel_rfl) (by intro _ _ _ h; exact h) (Or.inl ⟨by rfl, fun w hS => by go_simp⟩) hH ?_
  simp only [Act.put, List.setIfInBounds_toArray, List.set_cons_zero, List.set_cons_succ]
  refine wpAnyH_take (i := 11) (v := .int .i64 s) (by simp only [List.getElem?_toArray, List.getElem?_cons_succ, List.getElem?_cons_zero]; rfl) (by kernel_rfl) (by kernel_rfl) (by kernel_rfl) (by intro _ _ _ h; exact h) (Or.inl ⟨by rfl, fun w hS => by go_simp⟩) hH ?_
  simp only [Act.put, List.setIfInBounds_toArray, List.set_cons_zero, List.set_cons_succ]
  refine wpAnyH_ready (rs := [12]) (by kernel_rfl) (by simp) ?_
  refine AllReadyH.cons (by simp only [List.getElem?_toArray, List.getElem?_cons_succ, List.getElem?_cons_zero]; rfl) (fun K hK => ?_) AllReadyH.nil
  go_simp
  refine (sni _ cs s _ ((HV.out.below hH)) (by omega)).mono ?_
  rintro e x12 ⟨vq, rfl, hR, hM⟩
  obtain ⟨pr, kr, rfl, -, -, -⟩ := hR.parts
  have RQ := hid hR
  rw [← hNC.out]
  refine hK.out _ _ (hH.trans (hM.mono hH.size)) (fun hH => ?_)
  clear hK K
  clear hM hR
  refine wpAnyH_take (i := 13) (v := .slice pr (niL cs s).length kr) (by simp only [List.getElem?_toArray, List.getElem?_cons_succ, List.getElem?_cons_zero]; rfl) (by kernel_rfl) (by kernel_rfl) (by kernel_rfl) (by intro _ _ _ h; exact h) (Or.inl ⟨by rfl, fun w hS => by (have hf := fldI1 N pr (niL cs s).length kr; go_simp)⟩) hH ?_
  simp only [Act.put, List.setIfInBounds_toArray, List.set_cons_zero, List.set_cons_succ]
  refine wpAnyH_ready (rs := [14]) (by kernel_rfl) (by simp) ?_
  refine AllReadyH.cons (by simp only [List.getElem?_toArray, List.getElem?_cons_succ, List.getElem?_cons_zero]; rfl) (fun K hK => ?_) AllReadyH.nil
  go_simp
  refine (lwnu _ _ (niL cs s) _ (HN.out.below hH) RQ.out hnl).mono ?_
  rintro e x14 ⟨rfl, hM⟩
  refine hK.out _ _ (hH.trans (hM.mono hH.size)) (fun hH => ?_)
  clear hK K
  clear hM RQ
  refine wpAnyH_take (i := 15) (v := .bool false) (by simp only [List.getElem?_toArray, List.getElem?_cons_succ, List.getElem?_cons_zero]; rfl) (by kernel_rfl) (by kernel_rfl) (by kernel_rfl) (by intro _ _ _ h; exact h) (Or.inl ⟨by rfl, fun w hS => by go_simp⟩) hH ?_
  simp only [Act.put, List.setIfInBounds_toArray, List.set_cons_zero, List.set_cons_succ]
  refine wpAnyH_take (i := 16) (v := .bool false) (by simp only [List.getElem?_toArray, List.getElem?_cons_succ, List.getElem?_cons_zero]; rfl) (by kernel_rfl) (by kernel_rfl) (by kernel_rfl) (by intro _ _ _ h; exact h) (Or.inl ⟨by rfl, fun w hS => by go_simp⟩) hH ?_
  simp only [Act.put, List.setIfInBounds_toArray, List.set_cons_zero, List.set_cons_succ]
  refine wpAnyH_take (i := 17) (v := .bool false) (by simp only [List.getElem?_toArray, List.getElem?_cons_succ, List.getElem?_cons_zero]; rfl) (by kernel_rfl) (by kernel_rfl) (by kernel_rfl) (by intro _ _ _ h; exact h) (Or.inl ⟨by rfl, fun w hS => by go_simp⟩) hH ?_
  simp only [Act.put, List.setIfInBounds_toArray, List.set_cons_zero, List.set_cons_succ]
  refine wpAnyH_take (i := 18) (v := .pointer (some ⟨g8, 0, none⟩)) (by simp only [List.getElem?_toArray, List.getElem?_cons_succ, List.getElem?_cons_zero]; rfl) (by kernel_rfl) (by kernel_rfl) (by kernel_rfl) (by intro _ _ _ h; exact h) (Or.inl ⟨by rfl, fun w hS => by go_simp⟩) hH ?_
  simp only [Act.put, List.setIfInBounds_toArray, List.set_cons_zero, List.set_cons_succ]
  refine wpAnyH_take (i := 19) (v := .int .i64 F) (by simp only [List.getElem?_toArray, List.getElem?_cons_succ, List.getElem?_cons_zero]; rfl) (by kernel_rfl) (by kernel_rfl) (by kernel_rfl) (by intro _ _ _ h; exact h) (Or.inl ⟨by rfl, fun w hS => by (have y0 := cell_kept hS f0; go_simp)⟩) hH ?_
  simp only [Act.put, List.setIfInBounds_toArray, List.set_cons_zero, List.set_cons_succ]
  refine wpAnyH_take (i := 20) (v := .slice pw ds.length cw) (by simp only [List.getElem?_toArray, List.getElem?_cons_succ, List.getElem?_cons_zero]; rfl) (by kernel_rfl) (by kernel_rfl) (by kernel_rfl) (by intro _ _ _ h; exact h) (Or.inl ⟨by rfl, fun w hS => by go_simp⟩) hH ?_
  simp only [Act.put, List.setIfInBounds_toArray, List.set_cons_zero, List.set_cons_succ]
  refine wpAnyH_take (i := 21) (v := .int .i64 n) (by simp only [List.getElem?_toArray, List.getElem?_cons_succ, List.getElem?_cons_zero]; rfl) (by kernel_rfl) (by kernel_rfl) (by kernel_rfl) (by intro _ _ _ h; exact h) (Or.inl ⟨by rfl, fun w hS => by go_simp⟩) hH ?_
  simp only [Act.put, List.setIfInBounds_toArray, List.set_cons_zero, List.set_cons_succ]
  refine wpAnyH_ready (rs := [22]) (by kernel_rfl) (by simp) ?_
  refine AllReadyH.cons (by simp only [List.getElem?_toArray, List.getElem?_cons_succ, List.getElem?_cons_zero]; rfl) (fun K hK => ?_) AllReadyH.nil
  go_simp
  refine (sfc _ ds n _ (HW.out.below hH)).mono ?_
  rintro e x22 ⟨vq, rfl, hR, hM⟩
  obtain ⟨pq2, kq2, rfl, -, -, -⟩ := hR.parts
  rw [← hFC.out]
  refine hK.out _ _ (hH.trans (hM.mono hH.size)) (fun hH => ?_)
  clear hK K
  clear hM hR
  refine wpAnyH_take (i := 23) (v := .int .i64 F) (by simp only [List.getElem?_toArray, List.getElem?_cons_succ, List.getElem?_cons_zero]; rfl) (by kernel_rfl) (by kernel_rfl) (by kernel_rfl) (by intro _ _ _ h; exact h) (Or.inl ⟨by rfl, fun w hS => by (have hf := fldV0 F pq2 (fcL ds n).length kq2; go_simp)⟩) hH ?_
  simp only [Act.put, List.setIfInBounds_toArray, List.set_cons_zero, List.set_cons_succ]
  refine wpAnyH_take (i := 24) (v := .bool false) (by simp only [List.getElem?_toArray, List.getElem?_cons_succ, List.getElem?_cons_zero]; rfl) (by kernel_rfl) (by kernel_rfl) (by kernel_rfl) (by intro _ _ _ h; exact h) (Or.inl ⟨by rfl, fun w hS => by go_simp⟩) hH ?_
  simp only [Act.put, List.setIfInBounds_toArray, List.set_cons_zero, List.set_cons_succ]
  refine wpAnyH_take (i := 25) (v := .bool false) (by simp only [List.getElem?_toArray, List.getElem?_cons_succ, List.getElem?_cons_zero]; rfl) (by kernel_rfl) (by kernel_rfl) (by kernel_rfl) (by intro _ _ _ h; exact h) (Or.inl ⟨by rfl, fun w hS => by go_simp⟩) hH ?_
  simp only [Act.put, List.setIfInBounds_toArray, List.set_cons_zero, List.set_cons_succ]
  refine wpAnyH_take (i := 26) (v := .bool false) (by simp only [List.getElem?_toArray, List.getElem?_cons_succ, List.getElem?_cons_zero]; rfl) (by kernel_rfl) (by kernel_rfl) (by kernel_rfl) (by intro _ _ _ h; exact h) (Or.inl ⟨by rfl, fun w hS => by go_simp⟩) hH ?_
  simp only [Act.put, List.setIfInBounds_toArray, List.set_cons_zero, List.set_cons_succ]
  refine wpAnyH_take (i := 27) (v := .slice pa xs.length ca) (by simp only [List.getElem?_toArray, List.getElem?_cons_succ, List.getElem?_cons_zero]; rfl) (by kernel_rfl) (by kernel_rfl) (by kernel_rfl) (by intro _ _ _ h; exact h) (Or.inl ⟨by rfl, fun w hS => by go_simp⟩) hH ?_
  simp only [Act.put, List.setIfInBounds_toArray, List.set_cons_zero, List.set_cons_succ]
  refine wpAnyH_take (i := 28) (v := .slice pb ys.length cb) (by simp only [List.getElem?_toArray, List.getElem?_cons_succ, List.getElem?_cons_zero]; rfl) (by kernel_rfl) (by kernel_rfl) (by kernel_rfl) (by intro _ _ _ h; exact h) (Or.inl ⟨by rfl, fun w hS => by go_simp⟩) hH ?_
  simp only [Act.put, List.setIfInBounds_toArray, List.set_cons_zero, List.set_cons_succ]
  refine wpAnyH_take (i := 30) (v := .slice pa xs.length ca) (by simp only [List.getElem?_toArray, List.getElem?_cons_succ, List.getElem?_cons_zero]; rfl) (by kernel_rfl) (by kernel_rfl) (by kernel_rfl) (by intro _ _ _ h; exact h) (Or.inl ⟨by rfl, fun w hS => by go_simp⟩) hH ?_
  simp only [Act.put, List.setIfInBounds_toArray, List.set_cons_zero, List.set_cons_succ]
  refine wpAnyH_take (i := 31) (v := .slice pb ys.length cb) (by simp only [List.getElem?_toArray, List.getElem?_cons_succ, List.getElem?_cons_zero]; rfl) (by kernel_rfl) (by kernel_rfl) (by kernel_rfl) (by intro _ _ _ h; exact h) (Or.inl ⟨by rfl, fun w hS => by go_simp⟩) hH ?_
  simp only [Act.put, List.setIfInBounds_toArray, List.set_cons_zero, List.set_cons_succ]
  refine wpAnyH_ready (rs := [29]) (by kernel_rfl) (by simp) ?_
  refine AllReadyH.cons (by simp only [List.getElem?_toArray, List.getElem?_cons_succ, List.getElem?_cons_zero]; rfl) (fun K hK => ?_) AllReadyH.nil
  go_simp
  refine (ise _ _ xs ys _ (HA.out.below hH) (HB.out.below hH)).mono ?_
  rintro e x29 ⟨rfl, hM⟩
  refine hK.out _ _ (hH.trans (hM.mono hH.size)) (fun hH => ?_)
  clear hK K
  clear hM
  refine wpAnyH_ready (rs := [32]) (by kernel_rfl) (by simp) ?_
  refine AllReadyH.cons (by simp only [List.getElem?_toArray, List.getElem?_cons_succ, List.getElem?_cons_zero]; rfl) (fun K hK => ?_) AllReadyH.nil
  go_simp
  refine (sse _ _ xs ys _ (HA.out.below hH) (HB.out.below hH)).mono ?_
  rintro e x32 ⟨rfl, hM⟩
  refine hK.out _ _ (hH.trans (hM.mono hH.size)) (fun hH => ?_)
  clear hK K
  clear hM
  generalize scA xs ys = E
  refine wpAnyH_take (i := 33) (v := .bool false) (by simp only [List.getElem?_toArray, List.getElem?_cons_succ, List.getElem?_cons_zero]; rfl) (by kernel_rfl) (by kernel_rfl) (by kernel_rfl) (by intro _ _ _ h; exact h) (Or.inl ⟨by rfl, fun w hS => by go_simp⟩) hH ?_
  simp only [Act.put, List.setIfInBounds_toArray, List.set_cons_zero, List.set_cons_succ]
  refine wpAnyH_take (i := 34) (v := .bool false) (by simp only [List.getElem?_toArray, List.getElem?_cons_succ, List.getElem?_cons_zero]; rfl) (by kernel_rfl) (by kernel_rfl) (by kernel_rfl) (by intro _ _ _ h; exact h) (Or.inl ⟨by rfl, fun w hS => by go_simp⟩) hH ?_
  simp only [Act.put, List.setIfInBounds_toArray, List.set_cons_zero, List.set_cons_succ]
  refine wpAnyH_done (by kernel_rfl) ?_ _
  have hB := hH
  clear hH n0 n1 f0 f1 f2
  replace HV := hid (HV.out.below hB)
  replace HF := hid (HF.out.below hB)
  replace VN := hid (var_below hB VN.out)
  replace VF := hid (var_below hB VF.out)
  replace BB := hid (BB.out.trans (hB.mono BB.out.size))
  clear hB
  generalize x32 = w7 at *
  clear HA HB HW HN
  obtain ⟨n0, n1, -, -⟩ := var2_facts VN.out
  obtain ⟨⟨f0, f1, f2⟩, -⟩ := var3_facts VF.out
  by_cases hF0 : F = 0
  · obtain ⟨X, hX, hXn⟩ := fc_ok (hFC.out.symm.trans hF0)
    rw [hX] at f1 HF
    subst hF0
    subst hXn
    obtain ⟨a', cap', e, -, -, hcs⟩ := HF.out.parts
    cases e
    obtain ⟨bx, ox, rfl, q1⟩ := hcs 0 (by simp)
    obtain ⟨c0, -, -, -⟩ := c_cells q1
    have I1 := idx_ci bx ox 1 kf 0 (by omega)
    simp only [List.getElem_cons_zero, List.length_singleton, Nat.zero_mul, Nat.add_zero, Int.cast_ofNat_Int] at c0 f1 I1
    clear q1 hcs hX HF VF
    by_cases hN0 : N = 0
    · have VO := hid (ni_ok (hNC.out.symm.trans hN0))
      have NC := hid (fun k hk => ni_in VO.out k hk)
      subst hN0
      go_wp2_with fail
      refine (ini _ cs 0 _ HV.out (by omega)).mono ?_
      rintro e w10 ⟨vq, rfl, hR, hB⟩
      obtain ⟨p0, k0, rfl, -, -, -⟩ := hR.rd.parts
      rw [(NC.out 0 (by decide)).1]
      obtain ⟨A0, hA0⟩ : ∃ m, m = (niL cs 0).length := ⟨_, rfl⟩
      rw [← hA0]
      have hf0 := fldI1 0 p0 A0 k0
      have HA0 := hid hA0
      replace HV := hid (HV.out.below hB)
      replace BB := hid (BB.out.trans (hB.mono BB.out.size))
      clear hB
      clear hR hA0
      go_wp2_with fail
      refine (ini _ cs 1 _ HV.out (by omega)).mono ?_
      rintro e w11 ⟨vq, rfl, hR, hB⟩
      obtain ⟨p1, k1, rfl, -, -, -⟩ := hR.rd.parts
      rw [(NC.out 1 (by decide)).1]
      obtain ⟨A1, hA1⟩ : ∃ m, m = (niL cs 1).length := ⟨_, rfl⟩
      rw [← hA1]
      have hf1 := fldI1 0 p1 A1 k1
      have HA1 := hid hA1
      replace HV := hid (HV.out.below hB)
      replace BB := hid (BB.out.trans (hB.mono BB.out.size))
      clear hB
      clear hR hA1
      go_wp2_with fail
      refine (ini _ cs 2 _ HV.out (by omega)).mono ?_
      rintro e w12 ⟨vq, rfl, hR, hB⟩
      obtain ⟨p2, k2, rfl, -, -, -⟩ := hR.rd.parts
      rw [(NC.out 2 (by decide)).1]
      obtain ⟨A2, hA2⟩ : ∃ m, m = (niL cs 2).length := ⟨_, rfl⟩
      rw [← hA2]
      have hf2 := fldI1 0 p2 A2 k2
      have HA2 := hid hA2
      replace HV := hid (HV.out.below hB)
      replace BB := hid (BB.out.trans (hB.mono BB.out.size))
      clear hB
      clear hR hA2
      have hsum : A0 + A1 + A2 = cs.length := by
        have h1 := ndw_sum cs (vF_ok VO.out).2.1
        have h2 := HA0.out
        have h3 := HA1.out
        have h4 := HA2.out
        rw [(NC.out 0 (by decide)).2] at h2
        rw [(NC.out 1 (by decide)).2] at h3
        rw [(NC.out 2 (by decide)).2] at h4
        omega
      have h8 : cs.length ≤ 8 := by omega
      have heq := w3_eq hsum h8
      clear hsum
      go_wp2
      go_ret
      exact ⟨rfl, BB.out⟩
    · have ne : (N != 0) = true := by rw [bne_iff_ne]; exact hN0
      go_wp2
      go_ret
      exact ⟨rfl, BB.out⟩
  · have nf : (F == 0) = false := by simpa using hF0
    by_cases hN0 : N = 0
    · have VO := hid (ni_ok (hNC.out.symm.trans hN0))
      have NC := hid (fun k hk => ni_in VO.out k hk)
      subst hN0
      go_wp2_with fail
      refine (ini _ cs 0 _ HV.out (by omega)).mono ?_
      rintro e w10 ⟨vq, rfl, hR, hB⟩
      obtain ⟨p0, k0, rfl, -, -, -⟩ := hR.rd.parts
      rw [(NC.out 0 (by decide)).1]
      obtain ⟨A0, hA0⟩ : ∃ m, m = (niL cs 0).length := ⟨_, rfl⟩
      rw [← hA0]
      have hf0 := fldI1 0 p0 A0 k0
      have HA0 := hid hA0
      replace HV := hid (HV.out.below hB)
      replace BB := hid (BB.out.trans (hB.mono BB.out.size))
      clear hB
      clear hR hA0
      go_wp2_with fail
      refine (ini _ cs 1 _ HV.out (by omega)).mono ?_
      rintro e w11 ⟨vq, rfl, hR, hB⟩
      obtain ⟨p1, k1, rfl, -, -, -⟩ := hR.rd.parts
      rw [(NC.out 1 (by decide)).1]
      obtain ⟨A1, hA1⟩ : ∃ m, m = (niL cs 1).length := ⟨_, rfl⟩
      rw [← hA1]
      have hf1 := fldI1 0 p1 A1 k1
      have HA1 := hid hA1
      replace HV := hid (HV.out.below hB)
      replace BB := hid (BB.out.trans (hB.mono BB.out.size))
      clear hB
      clear hR hA1
      go_wp2_with fail
      refine (ini _ cs 2 _ HV.out (by omega)).mono ?_
      rintro e w12 ⟨vq, rfl, hR, hB⟩
      obtain ⟨p2, k2, rfl, -, -, -⟩ := hR.rd.parts
      rw [(NC.out 2 (by decide)).1]
      obtain ⟨A2, hA2⟩ : ∃ m, m = (niL cs 2).length := ⟨_, rfl⟩
      rw [← hA2]
      have hf2 := fldI1 0 p2 A2 k2
      have HA2 := hid hA2
      replace HV := hid (HV.out.below hB)
      replace BB := hid (BB.out.trans (hB.mono BB.out.size))
      clear hB
      clear hR hA2
      have hsum : A0 + A1 + A2 = cs.length := by
        have h1 := ndw_sum cs (vF_ok VO.out).2.1
        have h2 := HA0.out
        have h3 := HA1.out
        have h4 := HA2.out
        rw [(NC.out 0 (by decide)).2] at h2
        rw [(NC.out 1 (by decide)).2] at h3
        rw [(NC.out 2 (by decide)).2] at h4
        omega
      have h8 : cs.length ≤ 8 := by omega
      have heq := w3_eq hsum h8
      clear hsum
      go_wp2
      go_ret
      exact ⟨rfl, BB.out⟩
    · have ne : (N != 0) = true := by rw [bne_iff_ne]; exact hN0
      go_wp2
      go_ret
      exact ⟨rfl, BB.out⟩
end Go.Proofs.Ytpcndgmmdpgpmac.W
