/-
  The head of a letter out of its bytes: what the model's ReadHead answers.
-/
import Derived.Test.YtckgjghpfjinfakL5hW
import Derived.Test.YtckgjghpfjinfakL1rWalks
import Derived.Test.YtckgjghpfjinfakLetF
import Derived.Test.YtckgjghpfjinfakRhF
namespace Go.Proofs.Ytckgjghpfjinfak.W
open Go.ChangeShapes Go.WideShapes Go.ChangeAt Go.RowKit
open Go.Proofs.Ytckgjghpfjinfak.M

set_option maxRecDepth 100000 in
theorem srh_many (v : Value) (l : List Nat) (w : World) (h : Rd w v l) (hn : l.length < 11) :
    Calls Try.prog 20 #[v] w fun e w' => e = .returned (.agg #[.int .i64 2, .int .i64 0, .int .i64 0, .int .i64 0, .slice none 0 0]) ∧ Below w.heap.size w w' := by
  obtain ⟨a, cap, rfl, -, -, -⟩ := h.parts
  clear h
  go_enter Try.func20, Try.ntmps20
  go_wp2
  exact bodyPost_ret (v := .agg #[.int .i64 2, .int .i64 0, .int .i64 0, .int .i64 0, .slice none 0 0]) (results_cell_row rfl _ _ w.heap.size 40 _ _ _ rfl (heap_alloc_new w _) Try.underlying40 rfl (by kernel_rfl)) rfl ⟨rfl, below_alloc1 w _⟩
set_option maxRecDepth 100000 in
theorem srh_form (v : Value) (l : List Nat) (w : World) (h : Rd w v l) (hn : 11 ≤ l.length) (h0 : l.getD 0 0 ≠ 1) :
    Calls Try.prog 20 #[v] w fun e w' => e = .returned (.agg #[.int .i64 1, .int .i64 0, .int .i64 0, .int .i64 0, .slice none 0 0]) ∧ Below w.heap.size w w' := by
  obtain ⟨b, o, cap, rfl, -, c0, c1, c2, c3⟩ := rd_hd4 h hn
  clear h c1 c2 c3
  generalize l.getD 0 0 = x0 at *
  have ne : ((x0 : Int) != 1) = true := by rw [bne_iff_ne]; omega
  have C0 := fun x => cell_alloc c0 x
  replace h0 := hid h0
  clear c0
  go_enter Try.func20, Try.ntmps20
  go_wp2
  exact bodyPost_ret (v := .agg #[.int .i64 1, .int .i64 0, .int .i64 0, .int .i64 0, .slice none 0 0]) (results_cell_row rfl _ _ w.heap.size 40 _ _ _ rfl (heap_alloc_new w _) Try.underlying40 rfl (by kernel_rfl)) rfl ⟨rfl, below_alloc1 w _⟩
theorem wrap_by (x : Nat) (h : x < 256) : IntKind.i64.wrap (x : Int) = (x : Int) := by rw [IntKind.wrap_i64]; omega
set_option maxHeartbeats 1000000 in
set_option maxRecDepth 100000 in
theorem srh_one (v : Value) (l : List Nat) (c rk rs rc : Int) (w : World) (h : Rd w v l) (y : Byt l) (hm : l.length ≤ 1048576) (hn : 11 ≤ l.length) (h0 : l.getD 0 0 = 1) (hR : rhIs l c rk rs rc) :
    Calls Try.prog 20 #[v] w fun e w' => e = .returned (.agg #[.int .i64 c, .int .i64 rk, .int .i64 rs, .int .i64 rc, .slice none 0 0]) ∧ Below w.heap.size w w' := by
  have H := hid h
  have RD := hid (fun w h h3 => l1read v l 3 8 w h y (by omega) (by omega) h3 hm)
  have YY := hid y
  obtain ⟨b, o, cap, rfl, -, c0, c1, c2, c3⟩ := rd_hd4 h hn
  have HR := hid hR
  have H0 := hid h0
  rw [h0] at c0
  clear h h0 hR y
  obtain ⟨x1, e1⟩ : ∃ x, x = l.getD 1 0 := ⟨_, rfl⟩
  obtain ⟨x2, e2⟩ : ∃ x, x = l.getD 2 0 := ⟨_, rfl⟩
  obtain ⟨x3, e3⟩ : ∃ x, x = l.getD 3 0 := ⟨_, rfl⟩
  rw [← e1] at c1
  rw [← e2] at c2
  rw [← e3] at c3
  replace e1 := hid e1
  replace e2 := hid e2
  replace e3 := hid e3
  have B1 := getD_lt l YY.out 1
  have B2 := getD_lt l YY.out 2
  rw [← e1.out] at B1
  rw [← e2.out] at B2
  have W1 := hid (wrap_by x1 B1)
  have W2 := hid (wrap_by x2 B2)
  have C0 := fun x => cell_alloc c0 x
  clear c0
  go_enter Try.func20, Try.ntmps20
  go_wp2_with fail
  clear C0
  have hA := below_alloc1 w (.cells #[.int .i64 0, .int .i64 0, .int .i64 0, .int .i64 0, .slice none 0 0] 40)
  have VR := hid (heap_alloc_new w (.cells #[.int .i64 0, .int .i64 0, .int .i64 0, .int .i64 0, .slice none 0 0] 40))
  replace c1 := cell_kept hA c1
  replace c2 := cell_kept hA c2
  replace c3 := cell_kept hA c3
  replace H := hid (H.out.below hA)
  have BB := hid hA
  clear hA
  generalize w.alloc (.cells #[.int .i64 0, .int .i64 0, .int .i64 0, .int .i64 0, .slice none 0 0] 40) = w0 at *
  obtain ⟨g, hg⟩ : ∃ g, g = w.heap.size := ⟨_, rfl⟩
  rw [← hg] at VR ⊢
  replace hg := hid hg
  have VR0 := VR
  refine wp_region_held_drew (S := fun w' => Below w0.heap.size w0 w') (by kernel_rfl) (Below.refl _ _).drew (fun hH => ?_)
  generalize w0.drew = x at hH ⊢
  refine wpAnyH_take (i := 0) (v := .slice (some ⟨b, o, none⟩) l.length cap) (by simp only [List.getElem?_toArray, List.getElem?_cons_zero]; rfl) (by kernel_rfl) (by kernel_rfl) (by kernel_rfl) (by intro _ _ _ h; exact h) (Or.inl ⟨by rfl, fun w hS => by go_simp⟩) hH ?_
  simp only [Act.put, List.setIfInBounds_toArray, List.set_cons_zero, List.set_cons_succ]
  refine wpAnyH_take (i := 1) (v := .pointer (some ⟨b, o + 1, none⟩)) (by simp only [List.getElem?_toArray, List.getElem?_cons_succ, List.getElem?_cons_zero]; rfl) (by kernel_rfl) (by kernel_rfl) (by kernel_rfl) (by intro _ _ _ h; exact h) (Or.inl ⟨by rfl, fun w hS => by (go_simp; try (intro hq; exact absurd hq (by omega)))⟩) hH ?_
  simp only [Act.put, List.setIfInBounds_toArray, List.set_cons_zero, List.set_cons_succ]
  refine wpAnyH_take (i := 2) (v := .int .u8 (x1 : Int)) (by simp only [List.getElem?_toArray, List.getElem?_cons_succ, List.getElem?_cons_zero]; rfl) (by kernel_rfl) (by kernel_rfl) (by kernel_rfl) (by intro _ _ _ h; exact h) (Or.inl ⟨by rfl, fun w hS => by (have y0 := cell_kept hS c1; go_simp)⟩) hH ?_
  simp only [Act.put, List.setIfInBounds_toArray, List.set_cons_zero, List.set_cons_succ]
  refine wpAnyH_take (i := 3) (v := .int .i64 (x1 : Int)) (by simp only [List.getElem?_toArray, List.getElem?_cons_succ, List.getElem?_cons_zero]; rfl) (by kernel_rfl) (by kernel_rfl) (by kernel_rfl) (by intro _ _ _ h; exact h) (Or.inl ⟨by rfl, fun w hS => by (have y := W1.out; go_simp)⟩) hH ?_
  simp only [Act.put, List.setIfInBounds_toArray, List.set_cons_zero, List.set_cons_succ]
  refine wpAnyH_take (i := 4) (v := .slice (some ⟨b, o, none⟩) l.length cap) (by simp only [List.getElem?_toArray, List.getElem?_cons_succ, List.getElem?_cons_zero]; rfl) (by kernel_rfl) (by kernel_rfl) (by kernel_rfl) (by intro _ _ _ h; exact h) (Or.inl ⟨by rfl, fun w hS => by go_simp⟩) hH ?_
  simp only [Act.put, List.setIfInBounds_toArray, List.set_cons_zero, List.set_cons_succ]
  refine wpAnyH_take (i := 5) (v := .pointer (some ⟨b, o + 2, none⟩)) (by simp only [List.getElem?_toArray, List.getElem?_cons_succ, List.getElem?_cons_zero]; rfl) (by kernel_rfl) (by kernel_rfl) (by kernel_rfl) (by intro _ _ _ h; exact h) (Or.inl ⟨by rfl, fun w hS => by (go_simp; try (intro hq; exact absurd hq (by omega)))⟩) hH ?_
  simp only [Act.put, List.setIfInBounds_toArray, List.set_cons_zero, List.set_cons_succ]
  refine wpAnyH_take (i := 6) (v := .int .u8 (x2 : Int)) (by simp only [List.getElem?_toArray, List.getElem?_cons_succ, List.getElem?_cons_zero]; rfl) (by kernel_rfl) (by kernel_rfl) (by kernel_rfl) (by intro _ _ _ h; exact h) (Or.inl ⟨by rfl, fun w hS => by (have y0 := cell_kept hS c2; go_simp)⟩) hH ?_
  simp only [Act.put, List.setIfInBounds_toArray, List.set_cons_zero, List.set_cons_succ]
  refine wpAnyH_take (i := 7) (v := .int .i64 (x2 : Int)) (by simp only [List.getElem?_toArray, List.getElem?_cons_succ, List.getElem?_cons_zero]; rfl) (by kernel_rfl) (by kernel_rfl) (by kernel_rfl) (by intro _ _ _ h; exact h) (Or.inl ⟨by rfl, fun w hS => by (have y := W2.out; go_simp)⟩) hH ?_
  simp only [Act.put, List.setIfInBounds_toArray, List.set_cons_zero, List.set_cons_succ]
  refine wpAnyH_take (i := 8) (v := .agg #[.int .i64 (x1 : Int), .int .i64 (x2 : Int), .int .i64 0, .slice none 0 0]) (by simp only [List.getElem?_toArray, List.getElem?_cons_succ, List.getElem?_cons_zero]; rfl) (by kernel_rfl) (by kernel_rfl) (by kernel_rfl) (by intro _ _ _ h; exact h) (Or.inl ⟨by rfl, fun w hS => by go_simp⟩) hH ?_
  simp only [Act.put, List.setIfInBounds_toArray, List.set_cons_zero, List.set_cons_succ]
  refine wpAnyH_ready (rs := [9]) (by kernel_rfl) (by simp) ?_
  refine AllReadyH.cons (by simp only [List.getElem?_toArray, List.getElem?_cons_succ, List.getElem?_cons_zero]; rfl) (fun K hK => ?_) AllReadyH.nil
  go_simp
  have hM := below_alloc1 x (.cells #[.int .i64 0, .int .i64 0, .int .i64 0, .slice none 0 0] 27)
  have SX := hid hH.size
  have VL := hid (heap_alloc_new x (.cells #[.int .i64 0, .int .i64 0, .int .i64 0, .slice none 0 0] 27))
  refine hK.out _ _ (hH.alloc hH.size _) (fun hH => ?_)
  clear hK K hM
  generalize x.alloc (.cells #[.int .i64 0, .int .i64 0, .int .i64 0, .slice none 0 0] 27) = x9 at *
  refine wpAnyH_ready (rs := [10]) (by kernel_rfl) (by simp) ?_
  refine AllReadyH.cons (by simp only [List.getElem?_toArray, List.getElem?_cons_succ, List.getElem?_cons_zero]; rfl) (fun K hK => ?_) AllReadyH.nil
  obtain ⟨⟨q0, q1, q2, q3⟩, z0, z1, z2, z3⟩ := var4_facts VL.out
  go_simp
  have V2 := hid (var4_set (x' := .int .i64 (x1 : Int)) (y' := .int .i64 (x2 : Int)) (z' := .int .i64 0) (u' := .slice none 0 0) VL.out)
  replace VL := V2
  clear V2
  refine hK.out _ _ ((((hH.setCell (p := ⟨x.heap.size, 0, none⟩) SX.out (.int .i64 (x1 : Int))).setCell (p := ⟨x.heap.size, 1, none⟩) SX.out (.int .i64 (x2 : Int))).setCell (p := ⟨x.heap.size, 2, none⟩) SX.out (.int .i64 0)).setCell (p := ⟨x.heap.size, 3, none⟩) SX.out (.slice none 0 0)) (fun hH => ?_)
  clear hK K q0 q1 q2 q3 z0 z1 z2 z3
  generalize ((((x9.setCell ⟨x.heap.size, 0, none⟩ (.int .i64 (x1 : Int))).setCell ⟨x.heap.size, 1, none⟩ (.int .i64 (x2 : Int))).setCell ⟨x.heap.size, 2, none⟩ (.int .i64 0)).setCell ⟨x.heap.size, 3, none⟩ (.slice none 0 0)) = x10 at *
  refine wpAnyH_done (by kernel_rfl) ?_ _
  have hB := hH
  clear hH
  replace c3 := cell_kept hB c3
  replace VR := hid (var_below hB VR.out)
  replace H := hid (H.out.below hB)
  have NG := hid (show g < x.heap.size from Nat.lt_of_lt_of_le (var_lt VR0.out) SX.out)
  replace BB := hid (BB.out.trans (hB.mono BB.out.size))
  clear hB c1 c2 VR0
  obtain ⟨gl, hgl⟩ : ∃ g, g = x.heap.size := ⟨_, rfl⟩
  rw [← hgl] at VL NG ⊢
  clear hgl SX
  obtain ⟨⟨d0, d1, d2, d3⟩, z0, z1, z2, z3⟩ := var4_facts VL.out
  obtain ⟨⟨r0, r1, r2, r3, r4⟩, y0, y1, y2, y3, y4⟩ := var5_facts VR.out
  by_cases h3 : 127 < x3
  · have E := hid (show c = 3 ∧ rk = 0 ∧ rs = 0 ∧ rc = 0 from rh_top HR.out hn H0.out (by rw [← e3.out]; exact h3))
    obtain ⟨rfl, rfl, rfl, rfl⟩ := E.out
    have hset := hid (var5_set (v' := .int .i64 3) (x' := .int .i64 0) (y' := .int .i64 0) (z' := .int .i64 0) (u' := .slice none 0 0) VR.out)
    have hbel := hid (below_set5 (g := g) (v := .int .i64 3) (x := .int .i64 0) (y := .int .i64 0) (z := .int .i64 0) (u := .slice none 0 0) BB.out (Nat.le_of_eq hg.out.symm))
    go_wp2
    exact bodyPost_ret (v := .agg #[.int .i64 3, .int .i64 0, .int .i64 0, .int .i64 0, .slice none 0 0]) (results_cell_row rfl _ _ g 40 _ _ _ rfl hset.out Try.underlying40 rfl (by kernel_rfl)) rfl ⟨rfl, hbel.out⟩
  · have h3' : ¬ 127 < l.getD 3 0 := fun q => h3 (by rw [e3.out]; exact q)
    have RR := hid (RD.out _ H.out (fun q => h3' q.2))
    replace h3' := hid h3'
    clear RD
    go_wp2_with fail
    refine RR.out.mono ?_
    rintro e w9 ⟨rfl, rfl⟩
    clear RR
    obtain ⟨n, hn9⟩ : ∃ n, n = vt l 3 8 := ⟨_, rfl⟩
    rw [← hn9]
    replace hn9 := hid hn9
    replace VL := hid (var4_two (z' := .int .i64 (n : Int)) VL.out)
    replace VR := hid (var_other VR.out ⟨gl, 2, none⟩ (.int .i64 (n : Int)) (Nat.ne_of_lt NG.out))
    replace BB := hid (BB.out.setCell (p := ⟨gl, 2, none⟩) (Nat.le_trans (Nat.le_of_eq hg.out.symm) (Nat.le_of_lt NG.out)) (.int .i64 (n : Int)))
    go_wp2_with fail
    clear d0 d1 d2 d3 z0 z1 z2 z3 r0 r1 r2 r3 r4 y0 y1 y2 y3 y4 c3
    generalize w9.setCell ⟨gl, 2, none⟩ (.int .i64 (n : Int)) = w9b at *
    refine (l5head _ _ _ _ _ _ VL.out).mono ?_
    rintro e w10 ⟨t, rfl, hy, hno, hB⟩
    replace VR := hid (var_below hB VR.out)
    replace VL := hid (var_below hB VL.out)
    replace BB := hid (BB.out.trans (hB.mono BB.out.size))
    clear hB
    obtain ⟨⟨d0, d1, d2, d3⟩, -⟩ := var4_facts VL.out
    obtain ⟨⟨r0, r1, r2, r3, r4⟩, y0, y1, y2, y3, y4⟩ := var5_facts VR.out
    by_cases h4 : hOk (x1 : Int) (x2 : Int) (n : Int)
    · obtain rfl := hy h4
      have E := hid (rh_yes HR.out hn H0.out h3'.out (by rw [← e1.out, ← e2.out, ← hn9.out]; exact h4))
      rw [← e1.out, ← e2.out, ← hn9.out] at E
      replace h4 := hid h4
      clear hy hno
      obtain ⟨rfl, rfl, rfl, rfl⟩ := E.out
      have hset := hid (var5_set (v' := .int .i64 0) (x' := .int .i64 (x1 : Int)) (y' := .int .i64 (x2 : Int)) (z' := .int .i64 (n : Int)) (u' := .slice none 0 0) VR.out)
      have hbel := hid (below_set5 (g := g) (v := .int .i64 0) (x := .int .i64 (x1 : Int)) (y := .int .i64 (x2 : Int)) (z := .int .i64 (n : Int)) (u := .slice none 0 0) BB.out (Nat.le_of_eq hg.out.symm))
      go_wp2
      exact bodyPost_ret (v := .agg #[.int .i64 0, .int .i64 (x1 : Int), .int .i64 (x2 : Int), .int .i64 (n : Int), .slice none 0 0]) (results_cell_row rfl _ _ g 40 _ _ _ rfl hset.out Try.underlying40 rfl (by kernel_rfl)) rfl ⟨rfl, hbel.out⟩
    · obtain rfl := hno h4
      have E := hid (rh_no HR.out hn H0.out h3'.out (by rw [← e1.out, ← e2.out, ← hn9.out]; exact h4))
      replace h4 := hid h4
      clear hy hno
      obtain ⟨rfl, rfl, rfl, rfl⟩ := E.out
      have hset := hid (var5_set (v' := .int .i64 3) (x' := .int .i64 0) (y' := .int .i64 0) (z' := .int .i64 0) (u' := .slice none 0 0) VR.out)
      have hbel := hid (below_set5 (g := g) (v := .int .i64 3) (x := .int .i64 0) (y := .int .i64 0) (z := .int .i64 0) (u := .slice none 0 0) BB.out (Nat.le_of_eq hg.out.symm))
      go_wp2
      exact bodyPost_ret (v := .agg #[.int .i64 3, .int .i64 0, .int .i64 0, .int .i64 0, .slice none 0 0]) (results_cell_row rfl _ _ g 40 _ _ _ rfl hset.out Try.underlying40 rfl (by kernel_rfl)) rfl ⟨rfl, hbel.out⟩
theorem srh (v : Value) (l : List Nat) (c rk rs rc : Int) (w : World) (h : Rd w v l) (y : Byt l) (hm : l.length ≤ 1048576) (hR : rhIs l c rk rs rc) :
    Calls Try.prog 20 #[v] w fun e w' => e = .returned (.agg #[.int .i64 c, .int .i64 rk, .int .i64 rs, .int .i64 rc, .slice none 0 0]) ∧ Below w.heap.size w w' := by
  by_cases h1 : l.length < 11
  · obtain ⟨rfl, rfl, rfl, rfl⟩ := rh_many hR h1
    exact srh_many v l w h h1
  · by_cases h2 : l.getD 0 0 = 1
    · exact srh_one v l c rk rs rc w h y hm (by omega) h2 hR
    · obtain ⟨rfl, rfl, rfl, rfl⟩ := rh_form hR (by omega) h2
      exact srh_form v l w h (by omega) h2
end Go.Proofs.Ytckgjghpfjinfak.W
