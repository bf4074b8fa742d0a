/-
  What the model's l8Merge answers. Generated text.
-/
import Derived.Test.YtbleikbmnkjbeacVwIc
import Derived.Test.YtbleikbmnkjbeacVwG
import Derived.Test.YtbleikbmnkjbeacVwB
import Derived.Test.YtbleikbmnkjbeacVwFx
import Derived.Test.YtbleikbmnkjbeacVwP2
namespace Go.Proofs.Ytbleikbmnkjbeac.W
open Go.ChangeShapes Go.WideShapes Go.ChangeAt Go.RowKit
open Go.Proofs.Ytbleikbmnkjbeac.M

theorem ret_ub {u : Value} {s t : Bool} (h2 : s = t) : Ending.returned (.tuple #[u, .bool s]) = .returned (.tuple #[u, .bool t]) := by rw [h2]
set_option maxHeartbeats 8000000 in
set_option maxRecDepth 100000 in
theorem s8m (v : Value) (cs : List Clm) (c : Clm) (w : World) (h : RdC w v cs) (hl : cs.length ≤ 4) (hp : cs.Pairwise (fun a b => a.n < b.n)) :
    Calls Try.prog 111 #[v, .agg #[.int .i64 c.n, .int .i64 c.i, .int .i64 c.s, .int .i64 c.m]] w fun e w' => ∃ u, e = .returned (.tuple #[u, .bool (mch cs c)]) ∧ OwC w' w.heap.size u (mrg cs c) ∧ Below w.heap.size w w' := by
  have H := hid h
  have H0 := hid h
  have HP := hid hp
  obtain ⟨a, cap, rfl, -, -, -⟩ := h.parts
  clear h hp
  go_enter Try.func111, Try.ntmps111
  have V := hid (heap_alloc_new w (.cells #[.int .i64 c.n, .int .i64 c.i, .int .i64 c.s, .int .i64 c.m] 45))
  have BB := hid (below_alloc1 w (.cells #[.int .i64 c.n, .int .i64 c.i, .int .i64 c.s, .int .i64 c.m] 45))
  go_wp2_with fail
  generalize w.alloc (.cells #[.int .i64 c.n, .int .i64 c.i, .int .i64 c.s, .int .i64 c.m] 45) = w0 at *
  replace H := hid (H.out.below BB.out)
  obtain ⟨gc, hgc⟩ : ∃ g, g = w.heap.size := ⟨_, rfl⟩
  rw [← hgc] at V ⊢
  have LG := hid (show w.heap.size ≤ gc by omega)
  clear hgc
  obtain ⟨⟨v0, v1, v2, v3⟩, -⟩ := var4_facts V.out
  refine (s8f _ cs c.n _ H.out HP.out).mono ?_
  rintro e w1 ⟨rfl, hB⟩
  replace H := hid (H.out.below hB)
  replace V := hid (var_below hB V.out)
  replace BB := hid (BB.out.trans (hB.mono BB.out.size))
  clear hB v0 v1 v2 v3
  cases hh : hasN cs c.n
  case true =>
    obtain ⟨hml, -⟩ := hasN_yes hh
    have e1 : fdI cs c.n = (lb cs c.n : Int) := by rw [fdI, hh]; rfl
    have e2 : mch cs c = bC c (cs[lb cs c.n]'hml) := by rw [mch, hh]; simp [List.getD_eq_getElem?_getD, hml]
    have e3 : mrg cs c = if bC c (cs[lb cs c.n]'hml) then cs.set (lb cs c.n) c else cs := by rw [mrg, hh]; simp [List.getD_eq_getElem?_getD, hml]
    rw [e1]
    generalize lb cs c.n = m at *
    have m0 : (0 : Int) ≤ (m : Int) := by omega
    clear e1 hh
    go_wp2_with fail
    refine (s8c _ cs _ H.out (by omega)).mono ?_
    rintro e w3 ⟨u, rfl, hO, hB⟩
    have OO := hid (hO.mono (show w.heap.size ≤ w1.heap.size from BB.out.size))
    replace H := hid (H.out.below hB)
    replace V := hid (var_below hB V.out)
    replace BB := hid (BB.out.trans (hB.mono BB.out.size))
    obtain ⟨ga, ca, rfl, -, -⟩ : ∃ g cp, u = .slice (some ⟨g, 0, none⟩) cs.length cp ∧ True ∧ True := by
      rcases hO.2 with ⟨-, e0⟩ | ⟨g, cp, cur, e0, -⟩
      · omega
      · exact ⟨g, cp, e0, trivial, trivial⟩
    clear hB hO
    obtain ⟨⟨v0, v1, v2, v3⟩, -⟩ := var4_facts V.out
    obtain ⟨a', cap', e, -, -, hcs⟩ := H.out.parts
    cases e
    obtain ⟨ba, oa, rfl, q1⟩ := hcs m hml
    obtain ⟨c0, c1, c2, c3⟩ := c_cells q1
    have I1 := idx_ci ba oa cs.length cap m hml
    obtain ⟨A, hA⟩ : ∃ M, M = cs[m] := ⟨_, rfl⟩
    rw [← hA] at c0 c1 c2 c3 e2 e3
    have E2 := hid e2
    have E3 := hid e3
    clear q1 hcs hA e2 e3
    go_wp2
    refine wp_region_held_drew (S := fun w' => Below w3.heap.size w3 w') (by kernel_rfl) (Below.refl _ _).drew (fun hH => ?_)
    refine wpAnyH_take (i := 0) (v := .agg #[.int .i64 c.n, .int .i64 c.i, .int .i64 c.s, .int .i64 c.m]) (by simp only [List.getElem?_toArray, List.getElem?_cons_zero]; rfl) (by kernel_rfl) (by kernel_rfl) (by kernel_rfl) (by intro _ _ _ h; exact h) (Or.inl ⟨by rfl, fun w hS => by (have y0 := cell_kept hS v0; have y1 := cell_kept hS v1; have y2 := cell_kept hS v2; have y3 := cell_kept hS v3; go_simp)⟩) hH ?_
    simp only [Act.put, List.setIfInBounds_toArray, List.set_cons_zero, List.set_cons_succ]
    refine wpAnyH_take (i := 1) (v := .slice (some ⟨ba, oa, none⟩) cs.length cap) (by simp only [List.getElem?_toArray, List.getElem?_cons_succ, List.getElem?_cons_zero]; rfl) (by kernel_rfl) (by kernel_rfl) (by kernel_rfl) (by intro _ _ _ h; exact h) (Or.inl ⟨by rfl, fun w hS => by go_simp⟩) hH ?_
    simp only [Act.put, List.setIfInBounds_toArray, List.set_cons_zero, List.set_cons_succ]
    refine wpAnyH_take (i := 2) (v := .int .i64 (m : Int)) (by simp only [List.getElem?_toArray, List.getElem?_cons_succ, List.getElem?_cons_zero]; rfl) (by kernel_rfl) (by kernel_rfl) (by kernel_rfl) (by intro _ _ _ h; exact h) (Or.inl ⟨by rfl, fun w hS => by go_simp⟩) hH ?_
    simp only [Act.put, List.setIfInBounds_toArray, List.set_cons_zero, List.set_cons_succ]
    refine wpAnyH_take (i := 3) (v := .pointer (some ⟨ba, oa + m * 4, none⟩)) (by simp only [List.getElem?_toArray, List.getElem?_cons_succ, List.getElem?_cons_zero]; rfl) (by kernel_rfl) (by kernel_rfl) (by kernel_rfl) (by intro _ _ _ h; exact h) (Or.inl ⟨by rfl, fun w hS => by go_simp⟩) hH ?_
    simp only [Act.put, List.setIfInBounds_toArray, List.set_cons_zero, List.set_cons_succ]
    refine wpAnyH_take (i := 4) (v := .agg #[.int .i64 A.n, .int .i64 A.i, .int .i64 A.s, .int .i64 A.m]) (by simp only [List.getElem?_toArray, List.getElem?_cons_succ, List.getElem?_cons_zero]; rfl) (by kernel_rfl) (by kernel_rfl) (by kernel_rfl) (by intro _ _ _ h; exact h) (Or.inl ⟨by rfl, fun w hS => by (have y0 := cell_kept hS c0; have y1 := cell_kept hS c1; have y2 := cell_kept hS c2; have y3 := cell_kept hS c3; go_simp)⟩) hH ?_
    simp only [Act.put, List.setIfInBounds_toArray, List.set_cons_zero, List.set_cons_succ]
    refine wpAnyH_ready (rs := [5]) (by kernel_rfl) (by simp) ?_
    refine AllReadyH.cons (by simp only [List.getElem?_toArray, List.getElem?_cons_succ, List.getElem?_cons_zero]; rfl) (fun K hK => ?_) AllReadyH.nil
    go_simp
    refine (sbt c A _).mono ?_
    rintro e x5 ⟨rfl, hM⟩
    refine hK.out _ _ (hH.trans (hM.mono hH.size)) (fun hH => ?_)
    clear hK K
    clear hM
    refine wpAnyH_take (i := 6) (v := .bool (!bC c A)) (by simp only [List.getElem?_toArray, List.getElem?_cons_succ, List.getElem?_cons_zero]; rfl) (by kernel_rfl) (by kernel_rfl) (by kernel_rfl) (by intro _ _ _ h; exact h) (Or.inl ⟨by rfl, fun w hS => by go_simp⟩) hH ?_
    simp only [Act.put, List.setIfInBounds_toArray, List.set_cons_zero, List.set_cons_succ]
    refine wpAnyH_done (by kernel_rfl) ?_ _
    have hB := hH
    clear hH
    replace OO := hid (OO.out.below hB)
    replace V := hid (var_below hB V.out)
    replace BB := hid (BB.out.trans (hB.mono BB.out.size))
    clear hB c0 c1 c2 c3 v0 v1 v2 v3 I1
    obtain ⟨t, ht⟩ : ∃ t, t = bC c A := ⟨_, rfl⟩
    rw [← ht] at E2 E3 ⊢
    clear ht
    cases t
    · have E4 := hid (show mrg cs c = cs by rw [E3.out]; simp)
      go_wp2
      go_ret2
      exact ⟨_, ret_ub E2.out.symm, by rw [E4.out]; exact OO.out, BB.out⟩
    · have E4 := hid (show mrg cs c = cs.set m c by rw [E3.out]; simp)
      obtain ⟨d, fz⟩ := OO.out.open rfl m hml
      obtain ⟨d0, d1, d2, d3⟩ := c_cells d
      obtain ⟨⟨v0, v1, v2, v3⟩, -⟩ := var4_facts V.out
      have z0 := fz (m * 4)
      have z1 := fz (m * 4 + 1)
      have z2 := fz (m * 4 + 2)
      have z3 := fz (m * 4 + 3)
      have FN := hid (OO.out.put rfl m hml c)
      have GA := (OO.out.lt ga rfl).1
      have BN := hid (BB.out.grown (st4_grown _ ga (m * 4) c) BB.out.size (fun b e => by cases e; exact GA))
      unfold st4 at FN BN
      have I2 := idx_ci ga 0 cs.length ca m hml
      rw [Nat.zero_add] at I2
      clear d fz GA OO BB
      go_wp2
      go_ret2
      exact ⟨_, ret_ub E2.out.symm, by rw [E4.out]; exact FN.out, BN.out⟩
  case false =>
    have e1 : fdI cs c.n = -1 := by rw [fdI, hh]; rfl
    have E2 := hid (show mch cs c = true by rw [mch, hh]; rfl)
    have HH := hid hh
    rw [e1]
    clear e1 hh
    have V8 := heap_alloc_new w1 (.cells #[] 45)
    have B8 := hid (below_alloc1 w1 (.cells #[] 45))
    have O8 := hid (owC_lit V8 (show gc + 1 ≤ w1.heap.size from var_lt V.out))
    replace V := hid (var_below B8.out V.out)
    replace H := hid (H.out.below B8.out)
    replace BB := hid (BB.out.trans (B8.out.mono BB.out.size))
    clear V8 B8
    go_wp2_with fail
    generalize w1.alloc (.cells #[] 45) = w2 at *
    generalize w1.heap.size = g8 at *
    go_loopw [8, 9, 10] (fun s8 s9 i wr => ∃ k : Nat, ∃ u : Value, ∃ d : Bool, k ≤ cs.length ∧ i = .int .i64 k ∧ s8 = u ∧ s9 = .bool d ∧ Hid (d = decide (lb cs c.n < k)) ∧ Hid (Below w.heap.size w wr) ∧ Hid (wr.heap[gc]? = some (.cells #[.int .i64 c.n, .int .i64 c.i, .int .i64 c.s, .int .i64 c.m] 45)) ∧ Hid (OwC wr (gc + 1) u (iT cs c k))) (fun _ _ i _ => cs.length - (intOf i).toNat)
    case atStart => exact ⟨0, _, _, by omega, rfl, rfl, rfl, hid rfl, BB, V, hid (by simpa [iT] using O8.out)⟩
    case round =>
      clear BB V H O8
      obtain ⟨k, u, d, hk, rfl, rfl, rfl, hd, BL, VL, OL⟩ := hrel
      by_cases hlt : k < cs.length
      · obtain ⟨a', cap', e, -, -, hcs⟩ := H0.out.parts
        cases e
        obtain ⟨b, o, rfl, q1⟩ := hcs k hlt
        have HBK := hid (show b < w.heap.size from World.block_lt_of_cell? w _ (c_cells q1).1)
        obtain ⟨c0, c1, c2, c3⟩ := c_cells q1
        replace c0 := cell_kept BL.out c0
        replace c1 := cell_kept BL.out c1
        replace c2 := cell_kept BL.out c2
        replace c3 := cell_kept BL.out c3
        have I1 := idx_ci b o cs.length cap k hlt
        obtain ⟨⟨v0, v1, v2, v3⟩, -⟩ := var4_facts VL.out
        have SZ := hid (show gc + 1 ≤ wr.heap.size from var_lt VL.out)
        obtain ⟨pu, cu, rfl, -, -, -⟩ := OL.out.rd.parts
        have TL := hid (iT_len cs c k)
        have TN := hid (show hasN cs c.n = false → ∀ q : lb cs c.n = k, c.n < cs[k].n from fun q1 q2 => by have := hasN_no q1 (by omega); simp only [q2] at this; exact this)
        have TW := hid (show k < lb cs c.n → cs[k].n < c.n from fun q => lb_low q)
        have TA := hid (iT_at cs c k hlt)
        have TO := hid (iT_off cs c k hlt)
        obtain ⟨A, hA⟩ : ∃ M, M = cs[k] := ⟨_, rfl⟩
        rw [← hA] at c0 c1 c2 c3 TN TW TA TO
        obtain ⟨x, hx⟩ : ∃ x, x = iT cs c k := ⟨_, rfl⟩
        obtain ⟨y, hy⟩ : ∃ y, y = iT cs c (k + 1) := ⟨_, rfl⟩
        rw [← hx] at OL TL TA TO ⊢
        rw [← hy] at TA TO
        replace hy := hid hy
        clear q1 hcs hA hx
        have LA := hid (show x.length + 2 ≤ 4194304 by have := TL.out; omega)
        rcases Nat.lt_trichotomy (lb cs c.n) k with q | q | q
        · have T := hid (TO.out (by omega))
          obtain rfl : d = true := by rw [hd.out]; simpa using q
          have DD := hid (show true = decide (lb cs c.n < k + 1) by symm; simp; omega)
          replace q := hid q
          clear TA TO TN TW hd
          go_wp2
          refine wp_region_held_drew (S := fun w' => Below wr.heap.size wr w') (by kernel_rfl) (Below.refl _ _).drew (fun hH => ?_)
          generalize wr.drew = wd at hH ⊢
          refine wpAnyH_take (i := 0) (v := .bool true) (by simp only [List.getElem?_toArray, List.getElem?_cons_zero]; rfl) (by kernel_rfl) (by kernel_rfl) (by kernel_rfl) (by intro _ _ _ h; exact h) (Or.inl ⟨by rfl, fun w hS => by go_simp⟩) hH ?_
          simp only [Act.put, List.setIfInBounds_toArray, List.set_cons_zero, List.set_cons_succ]
          refine wpAnyH_take (i := 1) (v := .bool false) (by simp only [List.getElem?_toArray, List.getElem?_cons_succ, List.getElem?_cons_zero]; rfl) (by kernel_rfl) (by kernel_rfl) (by kernel_rfl) (by intro _ _ _ h; exact h) (Or.inl ⟨by rfl, fun w hS => by go_simp⟩) hH ?_
          simp only [Act.put, List.setIfInBounds_toArray, List.set_cons_zero, List.set_cons_succ]
          refine wpAnyH_take (i := 2) (v := .bool false) (by simp only [List.getElem?_toArray, List.getElem?_cons_succ, List.getElem?_cons_zero]; rfl) (by kernel_rfl) (by kernel_rfl) (by kernel_rfl) (by intro _ _ _ h; exact h) (Or.inl ⟨by rfl, fun w hS => by go_simp⟩) hH ?_
          simp only [Act.put, List.setIfInBounds_toArray, List.set_cons_zero, List.set_cons_succ]
          refine wpAnyH_take (i := 3) (v := undef) (by simp only [List.getElem?_toArray, List.getElem?_cons_succ, List.getElem?_cons_zero]; rfl) (by kernel_rfl) (by kernel_rfl) (by kernel_rfl) (by intro _ _ _ h; exact h) (Or.inr ⟨by rfl, rfl⟩) hH ?_
          simp only [Act.put, List.setIfInBounds_toArray, List.set_cons_zero, List.set_cons_succ]
          refine wpAnyH_take (i := 4) (v := undef) (by simp only [List.getElem?_toArray, List.getElem?_cons_succ, List.getElem?_cons_zero]; rfl) (by kernel_rfl) (by kernel_rfl) (by kernel_rfl) (by intro _ _ _ h; exact h) (Or.inr ⟨by rfl, rfl⟩) hH ?_
          simp only [Act.put, List.setIfInBounds_toArray, List.set_cons_zero, List.set_cons_succ]
          refine wpAnyH_take (i := 5) (v := undef) (by simp only [List.getElem?_toArray, List.getElem?_cons_succ, List.getElem?_cons_zero]; rfl) (by kernel_rfl) (by kernel_rfl) (by kernel_rfl) (by intro _ _ _ h; exact h) (Or.inr ⟨by rfl, rfl⟩) hH ?_
          simp only [Act.put, List.setIfInBounds_toArray, List.set_cons_zero, List.set_cons_succ]
          refine wpAnyH_take (i := 6) (v := undef) (by simp only [List.getElem?_toArray, List.getElem?_cons_succ, List.getElem?_cons_zero]; rfl) (by kernel_rfl) (by kernel_rfl) (by kernel_rfl) (by intro _ _ _ h; exact h) (Or.inr ⟨by rfl, rfl⟩) hH ?_
          simp only [Act.put, List.setIfInBounds_toArray, List.set_cons_zero, List.set_cons_succ]
          refine wpAnyH_take (i := 7) (v := undef) (by simp only [List.getElem?_toArray, List.getElem?_cons_succ, List.getElem?_cons_zero]; rfl) (by kernel_rfl) (by kernel_rfl) (by kernel_rfl) (by intro _ _ _ h; exact h) (Or.inr ⟨by rfl, rfl⟩) hH ?_
          simp only [Act.put, List.setIfInBounds_toArray, List.set_cons_zero, List.set_cons_succ]
          refine wpAnyH_take (i := 8) (v := undef) (by simp only [List.getElem?_toArray, List.getElem?_cons_succ, List.getElem?_cons_zero]; rfl) (by kernel_rfl) (by kernel_rfl) (by kernel_rfl) (by intro _ _ _ h; exact h) (Or.inr ⟨by rfl, rfl⟩) hH ?_
          simp only [Act.put, List.setIfInBounds_toArray, List.set_cons_zero, List.set_cons_succ]
          refine wpAnyH_take (i := 9) (v := undef) (by simp only [List.getElem?_toArray, List.getElem?_cons_succ, List.getElem?_cons_zero]; rfl) (by kernel_rfl) (by kernel_rfl) (by kernel_rfl) (by intro _ _ _ h; exact h) (Or.inr ⟨by rfl, rfl⟩) hH ?_
          simp only [Act.put, List.setIfInBounds_toArray, List.set_cons_zero, List.set_cons_succ]
          refine wpAnyH_take (i := 10) (v := undef) (by simp only [List.getElem?_toArray, List.getElem?_cons_succ, List.getElem?_cons_zero]; rfl) (by kernel_rfl) (by kernel_rfl) (by kernel_rfl) (by intro _ _ _ h; exact h) (Or.inr ⟨by rfl, rfl⟩) hH ?_
          simp only [Act.put, List.setIfInBounds_toArray, List.set_cons_zero, List.set_cons_succ]
          refine wpAnyH_take (i := 11) (v := .bool false) (by simp only [List.getElem?_toArray, List.getElem?_cons_succ, List.getElem?_cons_zero]; rfl) (by kernel_rfl) (by kernel_rfl) (by kernel_rfl) (by intro _ _ _ h; exact h) (Or.inl ⟨by rfl, fun w hS => by go_simp⟩) hH ?_
          simp only [Act.put, List.setIfInBounds_toArray, List.set_cons_zero, List.set_cons_succ]
          refine wpAnyH_done (by kernel_rfl) ?_ _
          have hB := hH
          clear hH
          replace VL := hid (var_below hB VL.out)
          replace OL := hid (OL.out.below hB)
          replace BL := hid (BL.out.trans (hB.mono BL.out.size))
          replace c0 := cell_kept hB c0
          replace c1 := cell_kept hB c1
          replace c2 := cell_kept hB c2
          replace c3 := cell_kept hB c3
          replace SZ := hid (Nat.le_trans SZ.out hB.size)
          clear hB v0 v1 v2 v3
          have B1 := hid (below_alloc1 wd (.cells #[.int .i64 A.n, .int .i64 A.i, .int .i64 A.s, .int .i64 A.m] 45))
          have R1 := hid (one_row (c := A) (heap_alloc_new wd (.cells #[.int .i64 A.n, .int .i64 A.i, .int .i64 A.s, .int .i64 A.m] 45)))
          have O2 := hid (OL.out.below B1.out)
          have S2 := hid (show gc + 1 ≤ (wd.alloc (.cells #[.int .i64 A.n, .int .i64 A.i, .int .i64 A.s, .int .i64 A.m] 45)).heap.size from Nat.le_trans SZ.out B1.out.size)
          have V2 := hid (var_below B1.out VL.out)
          have B2 := hid (BL.out.trans (B1.out.mono BL.out.size))
          clear B1 OL VL BL
          go_wp2_with (at_builtin; refine list_appC rfl _ _ rfl _ x [A] (gc + 1) wd.heap.size 0 1 rfl rfl O2.out R1.out (by simp) (by have := LA.out; simp; omega) S2.out ?_; intro g3 cap3 w3 hO hG; have V3 := hid (var_grown hG V2.out (fun e => by have := O2.out.lt gc e.symm; omega)); have B3 := hid (B2.out.grown hG (Nat.le_trans (Nat.le_succ_of_le LG.out) S2.out) (fun b e => by have := O2.out.lt b e; have := LG.out; omega)); have O3 := hid hO; have S3 := hid (Nat.le_trans S2.out hG.size))
          clear hO hG
          go_roundw
          case rel => exact ⟨k + 1, _, _, hlt, by go_num, rfl, rfl, DD, B3, V3, hid (by rw [← hy.out, T.out]; exact O3.out)⟩
          case measure => simp [intOf]; omega
        · have T := hid (TA.out q)
          obtain rfl : d = false := by rw [hd.out]; simp; omega
          have DD := hid (show true = decide (lb cs c.n < k + 1) by symm; simp; omega)
          have GT := TN.out HH.out q
          replace q := hid q
          clear TA TO TN TW hd
          go_wp2
          refine wp_region_held_drew (S := fun w' => Below wr.heap.size wr w') (by kernel_rfl) (Below.refl _ _).drew (fun hH => ?_)
          generalize wr.drew = wd at hH ⊢
          refine wpAnyH_take (i := 0) (v := .bool false) (by simp only [List.getElem?_toArray, List.getElem?_cons_zero]; rfl) (by kernel_rfl) (by kernel_rfl) (by kernel_rfl) (by intro _ _ _ h; exact h) (Or.inl ⟨by rfl, fun w hS => by go_simp⟩) hH ?_
          simp only [Act.put, List.setIfInBounds_toArray, List.set_cons_zero, List.set_cons_succ]
          refine wpAnyH_take (i := 1) (v := .bool true) (by simp only [List.getElem?_toArray, List.getElem?_cons_succ, List.getElem?_cons_zero]; rfl) (by kernel_rfl) (by kernel_rfl) (by kernel_rfl) (by intro _ _ _ h; exact h) (Or.inl ⟨by rfl, fun w hS => by go_simp⟩) hH ?_
          simp only [Act.put, List.setIfInBounds_toArray, List.set_cons_zero, List.set_cons_succ]
          refine wpAnyH_take (i := 2) (v := .bool true) (by simp only [List.getElem?_toArray, List.getElem?_cons_succ, List.getElem?_cons_zero]; rfl) (by kernel_rfl) (by kernel_rfl) (by kernel_rfl) (by intro _ _ _ h; exact h) (Or.inl ⟨by rfl, fun w hS => by go_simp⟩) hH ?_
          simp only [Act.put, List.setIfInBounds_toArray, List.set_cons_zero, List.set_cons_succ]
          refine wpAnyH_take (i := 3) (v := .slice (some ⟨b, o, none⟩) cs.length cap) (by simp only [List.getElem?_toArray, List.getElem?_cons_succ, List.getElem?_cons_zero]; rfl) (by kernel_rfl) (by kernel_rfl) (by kernel_rfl) (by intro _ _ _ h; exact h) (Or.inl ⟨by rfl, fun w hS => by go_simp⟩) hH ?_
          simp only [Act.put, List.setIfInBounds_toArray, List.set_cons_zero, List.set_cons_succ]
          refine wpAnyH_take (i := 4) (v := .int .i64 (k : Int)) (by simp only [List.getElem?_toArray, List.getElem?_cons_succ, List.getElem?_cons_zero]; rfl) (by kernel_rfl) (by kernel_rfl) (by kernel_rfl) (by intro _ _ _ h; exact h) (Or.inl ⟨by rfl, fun w hS => by go_simp⟩) hH ?_
          simp only [Act.put, List.setIfInBounds_toArray, List.set_cons_zero, List.set_cons_succ]
          refine wpAnyH_take (i := 5) (v := .pointer (some ⟨b, o + k * 4, none⟩)) (by simp only [List.getElem?_toArray, List.getElem?_cons_succ, List.getElem?_cons_zero]; rfl) (by kernel_rfl) (by kernel_rfl) (by kernel_rfl) (by intro _ _ _ h; exact h) (Or.inl ⟨by rfl, fun w hS => by go_simp⟩) hH ?_
          simp only [Act.put, List.setIfInBounds_toArray, List.set_cons_zero, List.set_cons_succ]
          refine wpAnyH_take (i := 6) (v := .pointer (some ⟨b, o + k * 4, none⟩)) (by simp only [List.getElem?_toArray, List.getElem?_cons_succ, List.getElem?_cons_zero]; rfl) (by kernel_rfl) (by kernel_rfl) (by kernel_rfl) (by intro _ _ _ h; exact h) (Or.inl ⟨by rfl, fun w hS => by go_simp⟩) hH ?_
          simp only [Act.put, List.setIfInBounds_toArray, List.set_cons_zero, List.set_cons_succ]
          refine wpAnyH_take (i := 7) (v := .int .i64 A.n) (by simp only [List.getElem?_toArray, List.getElem?_cons_succ, List.getElem?_cons_zero]; rfl) (by kernel_rfl) (by kernel_rfl) (by kernel_rfl) (by intro _ _ _ h; exact h) (Or.inl ⟨by rfl, fun w hS => by (have y0 := cell_kept hS c0; go_simp)⟩) hH ?_
          simp only [Act.put, List.setIfInBounds_toArray, List.set_cons_zero, List.set_cons_succ]
          refine wpAnyH_take (i := 8) (v := .pointer (some ⟨gc, 0, none⟩)) (by simp only [List.getElem?_toArray, List.getElem?_cons_succ, List.getElem?_cons_zero]; rfl) (by kernel_rfl) (by kernel_rfl) (by kernel_rfl) (by intro _ _ _ h; exact h) (Or.inl ⟨by rfl, fun w hS => by go_simp⟩) hH ?_
          simp only [Act.put, List.setIfInBounds_toArray, List.set_cons_zero, List.set_cons_succ]
          refine wpAnyH_take (i := 9) (v := .int .i64 c.n) (by simp only [List.getElem?_toArray, List.getElem?_cons_succ, List.getElem?_cons_zero]; rfl) (by kernel_rfl) (by kernel_rfl) (by kernel_rfl) (by intro _ _ _ h; exact h) (Or.inl ⟨by rfl, fun w hS => by (have y0 := cell_kept hS v0; go_simp)⟩) hH ?_
          simp only [Act.put, List.setIfInBounds_toArray, List.set_cons_zero, List.set_cons_succ]
          refine wpAnyH_take (i := 10) (v := .bool true) (by simp only [List.getElem?_toArray, List.getElem?_cons_succ, List.getElem?_cons_zero]; rfl) (by kernel_rfl) (by kernel_rfl) (by kernel_rfl) (by intro _ _ _ h; exact h) (Or.inl ⟨by rfl, fun w hS => by go_simp⟩) hH ?_
          simp only [Act.put, List.setIfInBounds_toArray, List.set_cons_zero, List.set_cons_succ]
          refine wpAnyH_take (i := 11) (v := .bool true) (by simp only [List.getElem?_toArray, List.getElem?_cons_succ, List.getElem?_cons_zero]; rfl) (by kernel_rfl) (by kernel_rfl) (by kernel_rfl) (by intro _ _ _ h; exact h) (Or.inl ⟨by rfl, fun w hS => by go_simp⟩) hH ?_
          simp only [Act.put, List.setIfInBounds_toArray, List.set_cons_zero, List.set_cons_succ]
          refine wpAnyH_done (by kernel_rfl) ?_ _
          have hB := hH
          clear hH
          replace VL := hid (var_below hB VL.out)
          replace OL := hid (OL.out.below hB)
          replace BL := hid (BL.out.trans (hB.mono BL.out.size))
          replace c0 := cell_kept hB c0
          replace c1 := cell_kept hB c1
          replace c2 := cell_kept hB c2
          replace c3 := cell_kept hB c3
          replace SZ := hid (Nat.le_trans SZ.out hB.size)
          clear hB
          clear v0 v1 v2 v3
          obtain ⟨⟨v0, v1, v2, v3⟩, -⟩ := var4_facts VL.out
          have B1 := hid (below_alloc1 wd (.cells #[.int .i64 c.n, .int .i64 c.i, .int .i64 c.s, .int .i64 c.m] 45))
          have R1 := hid (one_row (c := c) (heap_alloc_new wd (.cells #[.int .i64 c.n, .int .i64 c.i, .int .i64 c.s, .int .i64 c.m] 45)))
          have O2 := hid (OL.out.below B1.out)
          have S2 := hid (show gc + 1 ≤ (wd.alloc (.cells #[.int .i64 c.n, .int .i64 c.i, .int .i64 c.s, .int .i64 c.m] 45)).heap.size from Nat.le_trans SZ.out B1.out.size)
          have V2 := hid (var_below B1.out VL.out)
          have B2 := hid (BL.out.trans (B1.out.mono BL.out.size))
          have K0 := cell_alloc c0 (.cells #[.int .i64 c.n, .int .i64 c.i, .int .i64 c.s, .int .i64 c.m] 45)
          have K1 := cell_alloc c1 (.cells #[.int .i64 c.n, .int .i64 c.i, .int .i64 c.s, .int .i64 c.m] 45)
          have K2 := cell_alloc c2 (.cells #[.int .i64 c.n, .int .i64 c.i, .int .i64 c.s, .int .i64 c.m] 45)
          have K3 := cell_alloc c3 (.cells #[.int .i64 c.n, .int .i64 c.i, .int .i64 c.s, .int .i64 c.m] 45)
          have NB := hid (show ∀ b', (Value.slice pu x.length cu).ownBlock = some b' → b ≠ b' from fun b' e => by
            have h1 := O2.out.lt b' e
            have h2 := HBK.out
            have h3 := LG.out
            omega)
          clear B1 OL VL BL c0 c1 c2 c3
          go_wp2_with (first
            | (at_builtin; refine list_appC rfl _ _ rfl _ x [c] (gc + 1) wd.heap.size 0 1 rfl rfl O2.out R1.out (by simp) (by have := LA.out; simp; omega) S2.out ?_; intro g3 cap3 w3 hO hG; have V3 := hid (var_grown hG V2.out (fun e => by have := O2.out.lt gc e.symm; omega)); have B3 := hid (B2.out.grown hG (Nat.le_trans (Nat.le_succ_of_le LG.out) S2.out) (fun b e => by have := O2.out.lt b e; have := LG.out; omega)); have O3 := hid hO; have S3 := hid (Nat.le_trans S2.out hG.size); replace K0 := hG.cell K0 (fun e => NB.out b e.symm rfl); replace K1 := hG.cell K1 (fun e => NB.out b e.symm rfl); replace K2 := hG.cell K2 (fun e => NB.out b e.symm rfl); replace K3 := hG.cell K3 (fun e => NB.out b e.symm rfl); have B4 := hid (below_alloc1 w3 (.cells #[.int .i64 A.n, .int .i64 A.i, .int .i64 A.s, .int .i64 A.m] 45)); have R4 := hid (one_row (c := A) (heap_alloc_new w3 (.cells #[.int .i64 A.n, .int .i64 A.i, .int .i64 A.s, .int .i64 A.m] 45))); have O4 := hid (O3.out.below B4.out); have S4 := hid (Nat.le_trans S3.out B4.out.size); have V4 := hid (var_below B4.out V3.out); have B5 := hid (B3.out.trans (B4.out.mono B3.out.size)))
            | (at_builtin; refine list_appC rfl _ _ rfl _ (x ++ [c]) [A] (gc + 1) w3.heap.size 0 1 rfl rfl O4.out R4.out (by simp) (by have := LA.out; simp; omega) S4.out ?_; intro g5 cap5 w5 hO5 hG5; have V6 := hid (var_grown hG5 V4.out (fun e => by have := O4.out.lt gc e.symm; omega)); simp only [List.length_append, List.length_cons, List.length_nil, Nat.zero_add] at hO5; have B6 := hid (B5.out.grown hG5 (Nat.le_trans (Nat.le_succ_of_le LG.out) S4.out) (fun b e => by have := O4.out.lt b e; have := LG.out; omega)); have O6 := hid hO5))
          go_roundw
          case rel => exact ⟨k + 1, _, _, hlt, by go_num, rfl, rfl, DD, B6, V6, hid (by rw [← hy.out, T.out]; exact O6.out)⟩
          case measure => simp [intOf]; omega
        · have T := hid (TO.out (by omega))
          obtain rfl : d = false := by rw [hd.out]; simp; omega
          have DD := hid (show false = decide (lb cs c.n < k + 1) by symm; simp; omega)
          have GT : ¬ c.n < A.n := by have := TW.out q; omega
          replace q := hid q
          clear TA TO TN TW hd
          go_wp2
          refine wp_region_held_drew (S := fun w' => Below wr.heap.size wr w') (by kernel_rfl) (Below.refl _ _).drew (fun hH => ?_)
          generalize wr.drew = wd at hH ⊢
          refine wpAnyH_take (i := 0) (v := .bool false) (by simp only [List.getElem?_toArray, List.getElem?_cons_zero]; rfl) (by kernel_rfl) (by kernel_rfl) (by kernel_rfl) (by intro _ _ _ h; exact h) (Or.inl ⟨by rfl, fun w hS => by go_simp⟩) hH ?_
          simp only [Act.put, List.setIfInBounds_toArray, List.set_cons_zero, List.set_cons_succ]
          refine wpAnyH_take (i := 1) (v := .bool true) (by simp only [List.getElem?_toArray, List.getElem?_cons_succ, List.getElem?_cons_zero]; rfl) (by kernel_rfl) (by kernel_rfl) (by kernel_rfl) (by intro _ _ _ h; exact h) (Or.inl ⟨by rfl, fun w hS => by go_simp⟩) hH ?_
          simp only [Act.put, List.setIfInBounds_toArray, List.set_cons_zero, List.set_cons_succ]
          refine wpAnyH_take (i := 2) (v := .bool true) (by simp only [List.getElem?_toArray, List.getElem?_cons_succ, List.getElem?_cons_zero]; rfl) (by kernel_rfl) (by kernel_rfl) (by kernel_rfl) (by intro _ _ _ h; exact h) (Or.inl ⟨by rfl, fun w hS => by go_simp⟩) hH ?_
          simp only [Act.put, List.setIfInBounds_toArray, List.set_cons_zero, List.set_cons_succ]
          refine wpAnyH_take (i := 3) (v := .slice (some ⟨b, o, none⟩) cs.length cap) (by simp only [List.getElem?_toArray, List.getElem?_cons_succ, List.getElem?_cons_zero]; rfl) (by kernel_rfl) (by kernel_rfl) (by kernel_rfl) (by intro _ _ _ h; exact h) (Or.inl ⟨by rfl, fun w hS => by go_simp⟩) hH ?_
          simp only [Act.put, List.setIfInBounds_toArray, List.set_cons_zero, List.set_cons_succ]
          refine wpAnyH_take (i := 4) (v := .int .i64 (k : Int)) (by simp only [List.getElem?_toArray, List.getElem?_cons_succ, List.getElem?_cons_zero]; rfl) (by kernel_rfl) (by kernel_rfl) (by kernel_rfl) (by intro _ _ _ h; exact h) (Or.inl ⟨by rfl, fun w hS => by go_simp⟩) hH ?_
          simp only [Act.put, List.setIfInBounds_toArray, List.set_cons_zero, List.set_cons_succ]
          refine wpAnyH_take (i := 5) (v := .pointer (some ⟨b, o + k * 4, none⟩)) (by simp only [List.getElem?_toArray, List.getElem?_cons_succ, List.getElem?_cons_zero]; rfl) (by kernel_rfl) (by kernel_rfl) (by kernel_rfl) (by intro _ _ _ h; exact h) (Or.inl ⟨by rfl, fun w hS => by go_simp⟩) hH ?_
          simp only [Act.put, List.setIfInBounds_toArray, List.set_cons_zero, List.set_cons_succ]
          refine wpAnyH_take (i := 6) (v := .pointer (some ⟨b, o + k * 4, none⟩)) (by simp only [List.getElem?_toArray, List.getElem?_cons_succ, List.getElem?_cons_zero]; rfl) (by kernel_rfl) (by kernel_rfl) (by kernel_rfl) (by intro _ _ _ h; exact h) (Or.inl ⟨by rfl, fun w hS => by go_simp⟩) hH ?_
          simp only [Act.put, List.setIfInBounds_toArray, List.set_cons_zero, List.set_cons_succ]
          refine wpAnyH_take (i := 7) (v := .int .i64 A.n) (by simp only [List.getElem?_toArray, List.getElem?_cons_succ, List.getElem?_cons_zero]; rfl) (by kernel_rfl) (by kernel_rfl) (by kernel_rfl) (by intro _ _ _ h; exact h) (Or.inl ⟨by rfl, fun w hS => by (have y0 := cell_kept hS c0; go_simp)⟩) hH ?_
          simp only [Act.put, List.setIfInBounds_toArray, List.set_cons_zero, List.set_cons_succ]
          refine wpAnyH_take (i := 8) (v := .pointer (some ⟨gc, 0, none⟩)) (by simp only [List.getElem?_toArray, List.getElem?_cons_succ, List.getElem?_cons_zero]; rfl) (by kernel_rfl) (by kernel_rfl) (by kernel_rfl) (by intro _ _ _ h; exact h) (Or.inl ⟨by rfl, fun w hS => by go_simp⟩) hH ?_
          simp only [Act.put, List.setIfInBounds_toArray, List.set_cons_zero, List.set_cons_succ]
          refine wpAnyH_take (i := 9) (v := .int .i64 c.n) (by simp only [List.getElem?_toArray, List.getElem?_cons_succ, List.getElem?_cons_zero]; rfl) (by kernel_rfl) (by kernel_rfl) (by kernel_rfl) (by intro _ _ _ h; exact h) (Or.inl ⟨by rfl, fun w hS => by (have y0 := cell_kept hS v0; go_simp)⟩) hH ?_
          simp only [Act.put, List.setIfInBounds_toArray, List.set_cons_zero, List.set_cons_succ]
          refine wpAnyH_take (i := 10) (v := .bool false) (by simp only [List.getElem?_toArray, List.getElem?_cons_succ, List.getElem?_cons_zero]; rfl) (by kernel_rfl) (by kernel_rfl) (by kernel_rfl) (by intro _ _ _ h; exact h) (Or.inl ⟨by rfl, fun w hS => by go_simp⟩) hH ?_
          simp only [Act.put, List.setIfInBounds_toArray, List.set_cons_zero, List.set_cons_succ]
          refine wpAnyH_take (i := 11) (v := .bool false) (by simp only [List.getElem?_toArray, List.getElem?_cons_succ, List.getElem?_cons_zero]; rfl) (by kernel_rfl) (by kernel_rfl) (by kernel_rfl) (by intro _ _ _ h; exact h) (Or.inl ⟨by rfl, fun w hS => by go_simp⟩) hH ?_
          simp only [Act.put, List.setIfInBounds_toArray, List.set_cons_zero, List.set_cons_succ]
          refine wpAnyH_done (by kernel_rfl) ?_ _
          have hB := hH
          clear hH
          replace VL := hid (var_below hB VL.out)
          replace OL := hid (OL.out.below hB)
          replace BL := hid (BL.out.trans (hB.mono BL.out.size))
          replace c0 := cell_kept hB c0
          replace c1 := cell_kept hB c1
          replace c2 := cell_kept hB c2
          replace c3 := cell_kept hB c3
          replace SZ := hid (Nat.le_trans SZ.out hB.size)
          clear hB v0 v1 v2 v3
          have B1 := hid (below_alloc1 wd (.cells #[.int .i64 A.n, .int .i64 A.i, .int .i64 A.s, .int .i64 A.m] 45))
          have R1 := hid (one_row (c := A) (heap_alloc_new wd (.cells #[.int .i64 A.n, .int .i64 A.i, .int .i64 A.s, .int .i64 A.m] 45)))
          have O2 := hid (OL.out.below B1.out)
          have S2 := hid (show gc + 1 ≤ (wd.alloc (.cells #[.int .i64 A.n, .int .i64 A.i, .int .i64 A.s, .int .i64 A.m] 45)).heap.size from Nat.le_trans SZ.out B1.out.size)
          have V2 := hid (var_below B1.out VL.out)
          have B2 := hid (BL.out.trans (B1.out.mono BL.out.size))
          clear B1 OL VL BL
          go_wp2_with (at_builtin; refine list_appC rfl _ _ rfl _ x [A] (gc + 1) wd.heap.size 0 1 rfl rfl O2.out R1.out (by simp) (by have := LA.out; simp; omega) S2.out ?_; intro g3 cap3 w3 hO hG; have V3 := hid (var_grown hG V2.out (fun e => by have := O2.out.lt gc e.symm; omega)); have B3 := hid (B2.out.grown hG (Nat.le_trans (Nat.le_succ_of_le LG.out) S2.out) (fun b e => by have := O2.out.lt b e; have := LG.out; omega)); have O3 := hid hO; have S3 := hid (Nat.le_trans S2.out hG.size))
          clear hO hG
          go_roundw
          case rel => exact ⟨k + 1, _, _, hlt, by go_num, rfl, rfl, DD, B3, V3, hid (by rw [← hy.out, T.out]; exact O3.out)⟩
          case measure => simp [intOf]; omega
      · have hke : k = cs.length := by omega
        subst hke
        obtain ⟨⟨v0, v1, v2, v3⟩, -⟩ := var4_facts VL.out
        obtain ⟨pu, cu, rfl, -, -, -⟩ := OL.out.rd.parts
        have TL := hid (iT_len cs c cs.length)
        have HQ := hid (iT_end cs c HH.out)
        have HR := hid (iT_end' cs c HH.out)
        obtain ⟨x, hx⟩ : ∃ x, x = iT cs c cs.length := ⟨_, rfl⟩
        rw [← hx] at OL TL HQ HR ⊢
        clear hx
        by_cases q : lb cs c.n < cs.length
        · obtain rfl : d = true := by rw [hd.out]; simpa using q
          have T := hid (HQ.out q)
          replace q := hid q
          clear v0 v1 v2 v3
          go_wp2
          go_ret2
          exact ⟨.slice pu x.length cu, ret_ub E2.out.symm, by rw [← T.out]; exact OL.out.mono (Nat.le_succ_of_le LG.out), BL.out⟩
        · obtain rfl : d = false := by rw [hd.out]; simp; omega
          have T := hid (HR.out q)
          replace q := hid q
          have LA := hid (show x.length + 2 ≤ 4194304 by have := TL.out; omega)
          have SZ := hid (show gc + 1 ≤ wr.heap.size from var_lt VL.out)
          have B1 := hid (below_alloc1 wr (.cells #[.int .i64 c.n, .int .i64 c.i, .int .i64 c.s, .int .i64 c.m] 45))
          have R1 := hid (one_row (c := c) (heap_alloc_new wr (.cells #[.int .i64 c.n, .int .i64 c.i, .int .i64 c.s, .int .i64 c.m] 45)))
          have O2 := hid (OL.out.below B1.out)
          have S2 := hid (show gc + 1 ≤ (wr.alloc (.cells #[.int .i64 c.n, .int .i64 c.i, .int .i64 c.s, .int .i64 c.m] 45)).heap.size from Nat.le_trans SZ.out B1.out.size)
          have B2 := hid (BL.out.trans (B1.out.mono BL.out.size))
          clear B1 OL BL
          go_wp2_with (at_builtin; refine list_appC rfl _ _ rfl _ x [c] (gc + 1) wr.heap.size 0 1 rfl rfl O2.out R1.out (by simp) (by have := LA.out; simp; omega) S2.out ?_; intro g3 cap3 w3 hO hG; have B3 := hid (B2.out.grown hG (Nat.le_trans (Nat.le_succ_of_le LG.out) S2.out) (fun b e => by have := O2.out.lt b e; have := LG.out; omega)); have O3 := hid hO)
          clear hO hG
          go_ret2
          exact ⟨.slice (some ⟨g3, 0, none⟩) (x.length + 1) cap3, ret_ub E2.out.symm, by rw [← T.out]; exact O3.out.mono (Nat.le_succ_of_le LG.out), B3.out⟩
end Go.Proofs.Ytbleikbmnkjbeac.W
