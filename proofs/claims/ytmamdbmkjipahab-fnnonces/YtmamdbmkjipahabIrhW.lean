/-
  The head of a letter out of its bytes: what the program's readHead and ReadHead answer.
-/
import Derived.Test.YtmamdbmkjipahabIrdW
import Derived.Test.YtmamdbmkjipahabMarkW
import Derived.Test.YtmamdbmkjipahabLetF
import Derived.Test.YtmamdbmkjipahabRhF
import Derived.Laws.ResultCell
namespace Go.Proofs.Ytmamdbmkjipahab.W
open Go.ChangeShapes Go.WideShapes Go.ChangeAt Go.RowKit
open Go.Proofs.Ytmamdbmkjipahab.M

theorem head_results {fn : Func} {p u : Tmp} (h : fn.results = #[.cell p 137, .tmp u]) (tmps : Array Value) (w : World) (g : Nat) {x y z : Value} (T : TypeId) (hg : w.heap[g]? = some (.cells #[x, y, z] T)) (hp : tmps.getD p undef = .pointer (some ⟨g, 0, none⟩)) :
    (results fn tmps).run Try.prog w = .ok (.tuple #[.agg #[x, y, z], tmps.getD u undef]) w := by
  rw [results_cell_tmp h, hp]
  have e := run_loadVar_row (P := Try.prog) w g T 137 #[x, y, z] (0, 0) _ hg Try.underlying137 rfl (by kernel_rfl)
  simp [asAddr, Result.andThen, e]
theorem wrap_bz (x : Nat) (h : x < 256) : IntKind.i64.wrap (x : Int) = (x : Int) := by rw [IntKind.wrap_i64]; omega
set_option maxRecDepth 100000 in
theorem irh_many (v : Value) (l : List Nat) (w : World) (h : Rd w v l) (hn : l.length < 11) :
    Calls Try.prog 109 #[v] w fun e w' => e = .returned (.tuple #[.agg #[.int .i64 0, .int .i64 0, .int .i64 0], .int .i64 2]) ∧ Below w.heap.size w w' := by
  obtain ⟨a, cap, rfl, -, -, -⟩ := h.parts
  clear h
  go_enter Try.func109, Try.ntmps109
  go_wp2
  try simp only [Exit.inBlock, Exit.then]
  refine bodyPost_ret (head_results rfl _ _ w.heap.size _ (heap_alloc_new w _) rfl) rfl ?_
  exact ⟨rfl, below_alloc1 w _⟩
set_option maxRecDepth 100000 in
theorem irh_form (v : Value) (l : List Nat) (w : World) (h : Rd w v l) (hn : 11 ≤ l.length) (h0 : l.getD 0 0 ≠ 1) :
    Calls Try.prog 109 #[v] w fun e w' => e = .returned (.tuple #[.agg #[.int .i64 0, .int .i64 0, .int .i64 0], .int .i64 1]) ∧ Below w.heap.size w w' := by
  obtain ⟨b, o, cap, rfl, -, c0, c1, c2, c3⟩ := rd_hd4 h hn
  clear h c1 c2 c3
  generalize l.getD 0 0 = x0 at *
  have ne : ((x0 : Int) != 1) = true := by rw [bne_iff_ne]; omega
  have C0 := fun x => cell_alloc c0 x
  replace h0 := hid h0
  clear c0
  go_enter Try.func109, Try.ntmps109
  go_wp2
  try simp only [Exit.inBlock, Exit.then]
  refine bodyPost_ret (head_results rfl _ _ w.heap.size _ (heap_alloc_new w _) rfl) rfl ?_
  exact ⟨rfl, below_alloc1 w _⟩
set_option maxHeartbeats 1000000 in
set_option maxRecDepth 100000 in
theorem irh_one (v : Value) (l : List Nat) (c rk rs rc : Int) (w : World) (h : Rd w v l) (y : Byt l) (hm : l.length ≤ 1048576) (hn : 11 ≤ l.length) (h0 : l.getD 0 0 = 1) (hR : rhIs l c rk rs rc) :
    Calls Try.prog 109 #[v] w fun e w' => e = .returned (.tuple #[.agg #[.int .i64 rs, .int .i64 rc, .int .i64 rk], .int .i64 c]) ∧ Below w.heap.size w w' := by
  have H := hid h
  have YY := hid y
  obtain ⟨b, o, cap, rfl, -, c0, c1, c2, c3⟩ := rd_hd4 h hn
  have HR := hid hR
  have H0 := hid h0
  rw [h0] at c0
  clear h h0 hR y
  obtain ⟨x1, e1⟩ : ∃ x, x = l.getD 1 0 := ⟨_, rfl⟩
  obtain ⟨x2, e2⟩ : ∃ x, x = l.getD 2 0 := ⟨_, rfl⟩
  rw [← e1] at c1
  rw [← e2] at c2
  replace e1 := hid e1
  replace e2 := hid e2
  have B1 := getD_lt l YY.out 1
  have B2 := getD_lt l YY.out 2
  rw [← e1.out] at B1
  rw [← e2.out] at B2
  have W1 := hid (wrap_bz x1 B1)
  have W2 := hid (wrap_bz x2 B2)
  have C0 := fun x => cell_alloc c0 x
  clear c3
  obtain ⟨cc, cv, RW, CV⟩ : ∃ cc cv : Int, Hid (∀ w : World, Rd w (.slice (some ⟨b, o, none⟩) l.length cap) l → Calls Try.prog 137 #[.slice (some ⟨b, o, none⟩) l.length cap, .int .i64 3, .int .i64 8] w fun e w' => e = .returned (.agg #[.int .i64 cc, .int .i64 cv]) ∧ Below w.heap.size w w') ∧ Hid ((127 < l.getD 3 0 ∧ cc = 1 ∧ cv = 0) ∨ (¬ 127 < l.getD 3 0 ∧ cc = 0 ∧ cv = (vt l 3 8 : Nat))) := by
    by_cases h3 : 127 < l.getD 3 0
    · exact ⟨1, 0, hid fun w h => irw_form _ l 3 w h YY.out (by omega) h3 hm, hid (.inl ⟨h3, rfl, rfl⟩)⟩
    · exact ⟨0, (vt l 3 8 : Nat), hid fun w h => irw_ok _ l 3 8 w h YY.out (by omega) (by omega) (by omega) (fun q => h3 q.2) hm, hid (.inr ⟨h3, rfl, rfl⟩)⟩
  go_enter Try.func109, Try.ntmps109
  go_wp2_with fail
  clear C0 c0
  have hA := below_alloc1 w (.cells #[.int .i64 0, .int .i64 0, .int .i64 0] 137)
  have VR := hid (heap_alloc_new w (.cells #[.int .i64 0, .int .i64 0, .int .i64 0] 137))
  replace c1 := cell_kept hA c1
  replace c2 := cell_kept hA c2
  replace H := hid (H.out.below hA)
  have BB := hid hA
  clear hA
  generalize w.alloc (.cells #[.int .i64 0, .int .i64 0, .int .i64 0] 137) = w0 at *
  obtain ⟨g, hg⟩ : ∃ g, g = w.heap.size := ⟨_, rfl⟩
  rw [← hg] at VR ⊢
  replace hg := hid hg
  refine (RW.out _ H.out).mono ?_
  rintro e w1 ⟨rfl, hB⟩
  replace c1 := cell_kept hB c1
  replace c2 := cell_kept hB c2
  replace VR := hid (var_below hB VR.out)
  replace BB := hid (BB.out.trans (hB.mono BB.out.size))
  clear hB RW H
  go_wp2_with fail
  have hA := below_alloc1 w1 (.cells #[.int .i64 cc, .int .i64 cv] 176)
  have VC := hid (heap_alloc_new w1 (.cells #[.int .i64 cc, .int .i64 cv] 176))
  replace c1 := cell_kept hA c1
  replace c2 := cell_kept hA c2
  replace VR := hid (var_below hA VR.out)
  replace BB := hid (BB.out.trans (hA.mono BB.out.size))
  clear hA
  generalize w1.alloc (.cells #[.int .i64 cc, .int .i64 cv] 176) = w2 at *
  obtain ⟨gc, hgc⟩ : ∃ g, g = w1.heap.size := ⟨_, rfl⟩
  rw [← hgc] at VC ⊢
  clear hgc
  obtain ⟨i0, i1, -, -⟩ := var2_facts VC.out
  have VR0 := VR
  refine wp_region_held_drew (S := fun w' => Below w2.heap.size w2 w') (by kernel_rfl) (Below.refl _ _).drew (fun hH => ?_)
  generalize w2.drew = x at hH ⊢
  refine wpAnyH_take (i := 0) (v := .slice (some ⟨b, o, none⟩) l.length cap) (by simp only [List.getElem?_toArray, List.getElem?_cons_zero]; rfl) (by kernel_rfl) (by kernel_rfl) (by kernel_rfl) (by intro _ _ _ h; exact h) (Or.inl ⟨by rfl, fun w hS => by go_simp⟩) hH ?_
  simp only [Act.put, List.setIfInBounds_toArray, List.set_cons_zero, List.set_cons_succ]
  refine wpAnyH_take (i := 1) (v := .pointer (some ⟨b, o + 2, none⟩)) (by simp only [List.getElem?_toArray, List.getElem?_cons_succ, List.getElem?_cons_zero]; rfl) (by kernel_rfl) (by kernel_rfl) (by kernel_rfl) (by intro _ _ _ h; exact h) (Or.inl ⟨by rfl, fun w hS => by (go_simp; try (intro hq; exact absurd hq (by omega)))⟩) hH ?_
  simp only [Act.put, List.setIfInBounds_toArray, List.set_cons_zero, List.set_cons_succ]
  refine wpAnyH_take (i := 2) (v := .int .u8 (x2 : Int)) (by simp only [List.getElem?_toArray, List.getElem?_cons_succ, List.getElem?_cons_zero]; rfl) (by kernel_rfl) (by kernel_rfl) (by kernel_rfl) (by intro _ _ _ h; exact h) (Or.inl ⟨by rfl, fun w hS => by (have y0 := cell_kept hS c2; go_simp)⟩) hH ?_
  simp only [Act.put, List.setIfInBounds_toArray, List.set_cons_zero, List.set_cons_succ]
  refine wpAnyH_take (i := 3) (v := .int .i64 (x2 : Int)) (by simp only [List.getElem?_toArray, List.getElem?_cons_succ, List.getElem?_cons_zero]; rfl) (by kernel_rfl) (by kernel_rfl) (by kernel_rfl) (by intro _ _ _ h; exact h) (Or.inl ⟨by rfl, fun w hS => by (have y := W2.out; go_simp)⟩) hH ?_
  simp only [Act.put, List.setIfInBounds_toArray, List.set_cons_zero, List.set_cons_succ]
  refine wpAnyH_take (i := 4) (v := .pointer (some ⟨gc, 1, none⟩)) (by simp only [List.getElem?_toArray, List.getElem?_cons_succ, List.getElem?_cons_zero]; rfl) (by kernel_rfl) (by kernel_rfl) (by kernel_rfl) (by intro _ _ _ h; exact h) (Or.inl ⟨by rfl, fun w hS => by go_simp⟩) hH ?_
  simp only [Act.put, List.setIfInBounds_toArray, List.set_cons_zero, List.set_cons_succ]
  refine wpAnyH_take (i := 5) (v := .int .i64 cv) (by simp only [List.getElem?_toArray, List.getElem?_cons_succ, List.getElem?_cons_zero]; rfl) (by kernel_rfl) (by kernel_rfl) (by kernel_rfl) (by intro _ _ _ h; exact h) (Or.inl ⟨by rfl, fun w hS => by (have y0 := cell_kept hS i1; go_simp)⟩) hH ?_
  simp only [Act.put, List.setIfInBounds_toArray, List.set_cons_zero, List.set_cons_succ]
  refine wpAnyH_take (i := 6) (v := .agg #[.int .i64 (x2 : Int), .int .i64 cv]) (by simp only [List.getElem?_toArray, List.getElem?_cons_succ, List.getElem?_cons_zero]; rfl) (by kernel_rfl) (by kernel_rfl) (by kernel_rfl) (by intro _ _ _ h; exact h) (Or.inl ⟨by rfl, fun w hS => by go_simp⟩) hH ?_
  simp only [Act.put, List.setIfInBounds_toArray, List.set_cons_zero, List.set_cons_succ]
  refine wpAnyH_take (i := 7) (v := .slice (some ⟨b, o, none⟩) l.length cap) (by simp only [List.getElem?_toArray, List.getElem?_cons_succ, List.getElem?_cons_zero]; rfl) (by kernel_rfl) (by kernel_rfl) (by kernel_rfl) (by intro _ _ _ h; exact h) (Or.inl ⟨by rfl, fun w hS => by go_simp⟩) hH ?_
  simp only [Act.put, List.setIfInBounds_toArray, List.set_cons_zero, List.set_cons_succ]
  refine wpAnyH_take (i := 8) (v := .pointer (some ⟨b, o + 1, none⟩)) (by simp only [List.getElem?_toArray, List.getElem?_cons_succ, List.getElem?_cons_zero]; rfl) (by kernel_rfl) (by kernel_rfl) (by kernel_rfl) (by intro _ _ _ h; exact h) (Or.inl ⟨by rfl, fun w hS => by (go_simp; try (intro hq; exact absurd hq (by omega)))⟩) hH ?_
  simp only [Act.put, List.setIfInBounds_toArray, List.set_cons_zero, List.set_cons_succ]
  refine wpAnyH_take (i := 9) (v := .int .u8 (x1 : Int)) (by simp only [List.getElem?_toArray, List.getElem?_cons_succ, List.getElem?_cons_zero]; rfl) (by kernel_rfl) (by kernel_rfl) (by kernel_rfl) (by intro _ _ _ h; exact h) (Or.inl ⟨by rfl, fun w hS => by (have y0 := cell_kept hS c1; go_simp)⟩) hH ?_
  simp only [Act.put, List.setIfInBounds_toArray, List.set_cons_zero, List.set_cons_succ]
  refine wpAnyH_take (i := 10) (v := .int .i64 (x1 : Int)) (by simp only [List.getElem?_toArray, List.getElem?_cons_succ, List.getElem?_cons_zero]; rfl) (by kernel_rfl) (by kernel_rfl) (by kernel_rfl) (by intro _ _ _ h; exact h) (Or.inl ⟨by rfl, fun w hS => by (have y := W1.out; go_simp)⟩) hH ?_
  simp only [Act.put, List.setIfInBounds_toArray, List.set_cons_zero, List.set_cons_succ]
  refine wpAnyH_take (i := 11) (v := .agg #[.int .i64 (x2 : Int), .int .i64 cv, .int .i64 (x1 : Int)]) (by simp only [List.getElem?_toArray, List.getElem?_cons_succ, List.getElem?_cons_zero]; rfl) (by kernel_rfl) (by kernel_rfl) (by kernel_rfl) (by intro _ _ _ h; exact h) (Or.inl ⟨by rfl, fun w hS => by go_simp⟩) hH ?_
  simp only [Act.put, List.setIfInBounds_toArray, List.set_cons_zero, List.set_cons_succ]
  refine wpAnyH_ready (rs := [12]) (by kernel_rfl) (by simp) ?_
  refine AllReadyH.cons (by simp only [List.getElem?_toArray, List.getElem?_cons_succ, List.getElem?_cons_zero]; rfl) (fun K hK => ?_) AllReadyH.nil
  go_simp
  have hM := below_alloc1 x (.cells #[.int .i64 0, .int .i64 0, .int .i64 0] 137)
  have SX := hid hH.size
  have VL := hid (heap_alloc_new x (.cells #[.int .i64 0, .int .i64 0, .int .i64 0] 137))
  refine hK.out _ _ (hH.alloc hH.size _) (fun hH => ?_)
  clear hK K hM
  generalize x.alloc (.cells #[.int .i64 0, .int .i64 0, .int .i64 0] 137) = x12 at *
  refine wpAnyH_ready (rs := [13]) (by kernel_rfl) (by simp) ?_
  refine AllReadyH.cons (by simp only [List.getElem?_toArray, List.getElem?_cons_succ, List.getElem?_cons_zero]; rfl) (fun K hK => ?_) AllReadyH.nil
  obtain ⟨⟨q0, q1, q2⟩, z0, z1, z2⟩ := var3_facts VL.out
  go_simp
  have V2 := hid (var3_set (x' := .int .i64 (x2 : Int)) (y' := .int .i64 cv) (z' := .int .i64 (x1 : Int)) VL.out)
  replace VL := V2
  clear V2
  refine hK.out _ _ (((hH.setCell (p := ⟨x.heap.size, 0, none⟩) SX.out (.int .i64 (x2 : Int))).setCell (p := ⟨x.heap.size, 1, none⟩) SX.out (.int .i64 cv)).setCell (p := ⟨x.heap.size, 2, none⟩) SX.out (.int .i64 (x1 : Int))) (fun hH => ?_)
  clear hK K q0 q1 q2 z0 z1 z2
  generalize (((x12.setCell ⟨x.heap.size, 0, none⟩ (.int .i64 (x2 : Int))).setCell ⟨x.heap.size, 1, none⟩ (.int .i64 cv)).setCell ⟨x.heap.size, 2, none⟩ (.int .i64 (x1 : Int))) = x13 at *
  refine wpAnyH_done (by kernel_rfl) ?_ _
  have hB := hH
  clear hH i0 i1 c1 c2
  replace VR := hid (var_below hB VR.out)
  replace VC := hid (var_below hB VC.out)
  have NG := hid (show g < x.heap.size from Nat.lt_of_lt_of_le (var_lt VR0.out) SX.out)
  replace BB := hid (BB.out.trans (hB.mono BB.out.size))
  clear hB VR0
  obtain ⟨gl, hgl⟩ : ∃ g, g = x.heap.size := ⟨_, rfl⟩
  rw [← hgl] at VL NG ⊢
  clear hgl SX
  obtain ⟨i0, i1, -, -⟩ := var2_facts VC.out
  obtain ⟨⟨d0, d1, d2⟩, z0, z1, z2⟩ := var3_facts VL.out
  obtain ⟨⟨r0, r1, r2⟩, y0, y1, y2⟩ := var3_facts VR.out
  rcases CV.out with ⟨h3, rfl, rfl⟩ | ⟨h3, rfl, hv⟩
  · have E := hid (rh_top HR.out hn H0.out h3)
    replace h3 := hid h3
    obtain ⟨rfl, rfl, rfl, rfl⟩ := E.out
    have hset := hid (var3_set (x' := .int .i64 0) (y' := .int .i64 0) (z' := .int .i64 0) VR.out)
    have hbel := hid (below_set3 (g := g) (x := .int .i64 0) (y := .int .i64 0) (z := .int .i64 0) BB.out (Nat.le_of_eq hg.out.symm))
    go_wp2
    try simp only [Exit.inBlock, Exit.then]
    refine bodyPost_ret (head_results rfl _ _ g _ hset.out rfl) rfl ?_
    exact ⟨rfl, hbel.out⟩
  · obtain ⟨n, hn9⟩ : ∃ n, n = vt l 3 8 := ⟨_, rfl⟩
    rw [← hn9] at hv
    subst hv
    replace hn9 := hid hn9
    replace h3 := hid h3
    clear CV
    go_wp2_with fail
    refine (iright _ _ _ _).mono ?_
    rintro e w5 ⟨t, rfl, hy, hno, hB⟩
    clear d0 d1 d2 z0 z1 z2 r0 r1 r2 y0 y1 y2 i0 i1
    replace VR := hid (var_below hB VR.out)
    replace VL := hid (var_below hB VL.out)
    replace BB := hid (BB.out.trans (hB.mono BB.out.size))
    clear hB
    obtain ⟨⟨d0, d1, d2⟩, z0, z1, z2⟩ := var3_facts VL.out
    obtain ⟨⟨r0, r1, r2⟩, y0, y1, y2⟩ := var3_facts VR.out
    by_cases h4 : hOk (x1 : Int) (x2 : Int) (n : Int)
    · obtain rfl := hy h4
      have E := hid (rh_yes HR.out hn H0.out h3.out (by rw [← e1.out, ← e2.out, ← hn9.out]; exact h4))
      rw [← e1.out, ← e2.out, ← hn9.out] at E
      replace h4 := hid h4
      clear hy hno
      obtain ⟨rfl, rfl, rfl, rfl⟩ := E.out
      have hset := hid (var3_set (x' := .int .i64 (x2 : Int)) (y' := .int .i64 (n : Int)) (z' := .int .i64 (x1 : Int)) VR.out)
      have hbel := hid (below_set3 (g := g) (x := .int .i64 (x2 : Int)) (y := .int .i64 (n : Int)) (z := .int .i64 (x1 : Int)) BB.out (Nat.le_of_eq hg.out.symm))
      go_wp2
      try simp only [Exit.inBlock, Exit.then]
      refine bodyPost_ret (head_results rfl _ _ g _ hset.out rfl) rfl ?_
      exact ⟨rfl, hbel.out⟩
    · obtain rfl := hno h4
      have E := hid (rh_no HR.out hn H0.out h3.out (by rw [← e1.out, ← e2.out, ← hn9.out]; exact h4))
      replace h4 := hid h4
      clear hy hno
      obtain ⟨rfl, rfl, rfl, rfl⟩ := E.out
      have hset := hid (var3_set (x' := .int .i64 0) (y' := .int .i64 0) (z' := .int .i64 0) VR.out)
      have hbel := hid (below_set3 (g := g) (x := .int .i64 0) (y := .int .i64 0) (z := .int .i64 0) BB.out (Nat.le_of_eq hg.out.symm))
      go_wp2
      try simp only [Exit.inBlock, Exit.then]
      refine bodyPost_ret (head_results rfl _ _ g _ hset.out rfl) rfl ?_
      exact ⟨rfl, hbel.out⟩
theorem irh (v : Value) (l : List Nat) (c rk rs rc : Int) (w : World) (h : Rd w v l) (y : Byt l) (hm : l.length ≤ 1048576) (hR : rhIs l c rk rs rc) :
    Calls Try.prog 109 #[v] w fun e w' => e = .returned (.tuple #[.agg #[.int .i64 rs, .int .i64 rc, .int .i64 rk], .int .i64 c]) ∧ Below w.heap.size w w' := by
  by_cases h1 : l.length < 11
  · obtain ⟨rfl, rfl, rfl, rfl⟩ := rh_many hR h1
    exact irh_many v l w h h1
  · by_cases h2 : l.getD 0 0 = 1
    · exact irh_one v l c rk rs rc w h y hm (by omega) h2 hR
    · obtain ⟨rfl, rfl, rfl, rfl⟩ := rh_form hR (by omega) h2
      exact irh_form v l w h (by omega) h2
end Go.Proofs.Ytmamdbmkjipahab.W
