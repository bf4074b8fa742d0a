/-
  ClearWaits of the program: its closure, parted at it, and the function.
-/
import Derived.Test.YtalaolfcdaaaoaaWtSa
import Derived.Test.YtalaolfcdaaaoaaWtVi
import Derived.Test.YtalaolfcdaaaoaaWtC
namespace Go.Proofs.Ytalaolfcdaaaoaa.W
open Go.ChangeShapes Go.WideShapes Go.ChangeAt Go.RowKit
open Go.Proofs.Ytalaolfcdaaaoaa.M

set_option maxHeartbeats 2000000 in
set_option maxRecDepth 100000 in
theorem clrC (x : Wai) (s : Int) (gs : Nat) (w : World) (hs : w.cell? ⟨gs, 0, none⟩ = some (.int .i64 s)) :
    Calls Try.prog 81 #[.agg #[.int .i64 x.a, .int .i64 x.b, .int .i64 x.c, .int .i64 x.d, .int .i64 x.e, .int .i64 x.f, .int .i64 x.g], .pointer (some ⟨gs, 0, none⟩)] w fun e' w' => e' = .returned (.tuple #[.agg #[.int .i64 x.a, .int .i64 x.b, .int .i64 x.c, .int .i64 x.d, .int .i64 x.e, .int .i64 x.f, .int .i64 x.g], .bool (fClr s x).2]) ∧ Below w.heap.size w w' := by
  have CS := hid hs
  clear hs
  have VA := hid (var_alloc (.cells #[.int .i64 0, .int .i64 0, .int .i64 0, .int .i64 0, .int .i64 0, .int .i64 0, .int .i64 0] 63) (heap_alloc_new w (.cells #[.int .i64 x.a, .int .i64 x.b, .int .i64 x.c, .int .i64 x.d, .int .i64 x.e, .int .i64 x.f, .int .i64 x.g] 63)))
  have VZ := hid (heap_alloc_new (w.alloc (.cells #[.int .i64 x.a, .int .i64 x.b, .int .i64 x.c, .int .i64 x.d, .int .i64 x.e, .int .i64 x.f, .int .i64 x.g] 63)) (.cells #[.int .i64 0, .int .i64 0, .int .i64 0, .int .i64 0, .int .i64 0, .int .i64 0, .int .i64 0] 63))
  simp only [World.size_alloc] at VZ
  have BB := hid (below_alloc2 w (.cells #[.int .i64 x.a, .int .i64 x.b, .int .i64 x.c, .int .i64 x.d, .int .i64 x.e, .int .i64 x.f, .int .i64 x.g] 63) (.cells #[.int .i64 0, .int .i64 0, .int .i64 0, .int .i64 0, .int .i64 0, .int .i64 0, .int .i64 0] 63))
  by_cases qb : x.b = s
  case neg =>
    have E := hid (show (fClr s x).2 = false from by simp [fClr, qb])
    have nb : (x.b == s) = false := by simp [qb]
    replace qb := hid qb
    go_enter Try.func81, Try.ntmps81
    go_wp2_with fail
    generalize (w.alloc (.cells #[.int .i64 x.a, .int .i64 x.b, .int .i64 x.c, .int .i64 x.d, .int .i64 x.e, .int .i64 x.f, .int .i64 x.g] 63)).alloc (.cells #[.int .i64 0, .int .i64 0, .int .i64 0, .int .i64 0, .int .i64 0, .int .i64 0, .int .i64 0] 63) = wq at *
    obtain ⟨gz, hz⟩ : ∃ g, g = w.heap.size + 1 := ⟨_, rfl⟩
    rw [← hz] at VZ ⊢
    obtain ⟨ga, ha⟩ : ∃ g, g = w.heap.size := ⟨_, rfl⟩
    have LZ := hid (show w.heap.size ≤ gz ∧ ga ≠ gz by omega)
    rw [← ha] at VA ⊢
    replace ha := hid ha
    replace hz := hid hz
    refine wp_region_held_drew (S := fun w' => Below w.heap.size w w' ∧ w'.heap[ga]? = some (.cells #[.int .i64 x.a, .int .i64 x.b, .int .i64 x.c, .int .i64 x.d, .int .i64 x.e, .int .i64 x.f, .int .i64 x.g] 63)) (by kernel_rfl) ⟨BB.out.drew, VA.out⟩ (fun hH => ?_)
    have VD := hid (show wq.drew.heap[gz]? = some (.cells #[.int .i64 0, .int .i64 0, .int .i64 0, .int .i64 0, .int .i64 0, .int .i64 0, .int .i64 0] 63) from VZ.out)
    clear VZ VA BB
    generalize wq.drew = wd at hH VD ⊢
    refine wpAnyH_take (i := 0) (v := .agg #[.int .i64 x.a, .int .i64 x.b, .int .i64 x.c, .int .i64 x.d, .int .i64 x.e, .int .i64 x.f, .int .i64 x.g]) (by simp only [List.getElem?_toArray, List.getElem?_cons_zero]; rfl) (by kernel_rfl) (by kernel_rfl) (by kernel_rfl) (by intro _ _ _ h; exact h) (Or.inl ⟨by rfl, fun w hS => by (obtain ⟨⟨y0, y1, y2, y3, y4, y5, y6⟩, -⟩ := v7_facts hS.2; clear hS; go_simp)⟩) hH ?_
    simp only [Act.put, List.setIfInBounds_toArray, List.set_cons_zero, List.set_cons_succ]
    refine wpAnyH_take (i := 1) (v := .pointer (some ⟨ga, 1, none⟩)) (by simp only [List.getElem?_toArray, List.getElem?_cons_succ, List.getElem?_cons_zero]; rfl) (by kernel_rfl) (by kernel_rfl) (by kernel_rfl) (by intro _ _ _ h; exact h) (Or.inl ⟨by rfl, fun w hS => by go_simp⟩) hH ?_
    simp only [Act.put, List.setIfInBounds_toArray, List.set_cons_zero, List.set_cons_succ]
    refine wpAnyH_take (i := 2) (v := .int .i64 x.b) (by simp only [List.getElem?_toArray, List.getElem?_cons_succ, List.getElem?_cons_zero]; rfl) (by kernel_rfl) (by kernel_rfl) (by kernel_rfl) (by intro _ _ _ h; exact h) (Or.inl ⟨by rfl, fun w hS => by (obtain ⟨⟨y0, y1, y2, y3, y4, y5, y6⟩, -⟩ := v7_facts hS.2; clear hS; go_simp)⟩) hH ?_
    simp only [Act.put, List.setIfInBounds_toArray, List.set_cons_zero, List.set_cons_succ]
    refine wpAnyH_take (i := 3) (v := .int .i64 s) (by simp only [List.getElem?_toArray, List.getElem?_cons_succ, List.getElem?_cons_zero]; rfl) (by kernel_rfl) (by kernel_rfl) (by kernel_rfl) (by intro _ _ _ h; exact h) (Or.inl ⟨by rfl, fun w hS => by (have y := cell_kept hS.1 CS.out; go_simp)⟩) hH ?_
    simp only [Act.put, List.setIfInBounds_toArray, List.set_cons_zero, List.set_cons_succ]
    refine wpAnyH_take (i := 4) (v := .bool false) (by simp only [List.getElem?_toArray, List.getElem?_cons_succ, List.getElem?_cons_zero]; rfl) (by kernel_rfl) (by kernel_rfl) (by kernel_rfl) (by intro _ _ _ h; exact h) (Or.inl ⟨by rfl, fun w hS => by go_simp⟩) hH ?_
    simp only [Act.put, List.setIfInBounds_toArray, List.set_cons_zero, List.set_cons_succ]
    refine wpAnyH_take (i := 5) (v := .bool false) (by simp only [List.getElem?_toArray, List.getElem?_cons_succ, List.getElem?_cons_zero]; rfl) (by kernel_rfl) (by kernel_rfl) (by kernel_rfl) (by intro _ _ _ h; exact h) (Or.inl ⟨by rfl, fun w hS => by go_simp⟩) hH ?_
    simp only [Act.put, List.setIfInBounds_toArray, List.set_cons_zero, List.set_cons_succ]
    refine wpAnyH_take (i := 6) (v := undef) (by simp only [List.getElem?_toArray, List.getElem?_cons_succ, List.getElem?_cons_zero]; rfl) (by kernel_rfl) (by kernel_rfl) (by kernel_rfl) (by intro _ _ _ h; exact h) (Or.inr ⟨by rfl, rfl⟩) hH ?_
    simp only [Act.put, List.setIfInBounds_toArray, List.set_cons_zero, List.set_cons_succ]
    refine wpAnyH_take (i := 7) (v := undef) (by simp only [List.getElem?_toArray, List.getElem?_cons_succ, List.getElem?_cons_zero]; rfl) (by kernel_rfl) (by kernel_rfl) (by kernel_rfl) (by intro _ _ _ h; exact h) (Or.inr ⟨by rfl, rfl⟩) hH ?_
    simp only [Act.put, List.setIfInBounds_toArray, List.set_cons_zero, List.set_cons_succ]
    refine wpAnyH_take (i := 8) (v := undef) (by simp only [List.getElem?_toArray, List.getElem?_cons_succ, List.getElem?_cons_zero]; rfl) (by kernel_rfl) (by kernel_rfl) (by kernel_rfl) (by intro _ _ _ h; exact h) (Or.inr ⟨by rfl, rfl⟩) hH ?_
    simp only [Act.put, List.setIfInBounds_toArray, List.set_cons_zero, List.set_cons_succ]
    refine wpAnyH_take (i := 9) (v := .bool false) (by simp only [List.getElem?_toArray, List.getElem?_cons_succ, List.getElem?_cons_zero]; rfl) (by kernel_rfl) (by kernel_rfl) (by kernel_rfl) (by intro _ _ _ h; exact h) (Or.inl ⟨by rfl, fun w hS => by go_simp⟩) hH ?_
    simp only [Act.put, List.setIfInBounds_toArray, List.set_cons_zero, List.set_cons_succ]
    refine wpAnyH_ready (rs := [10]) (by kernel_rfl) (by simp) ?_
    refine AllReadyH.cons (by simp only [List.getElem?_toArray, List.getElem?_cons_succ, List.getElem?_cons_zero]; rfl) (fun K hK => ?_) AllReadyH.nil
    obtain ⟨⟨o0, o1, o2, o3, o4, o5, o6⟩, z0, z1, z2, z3, z4, z5, z6⟩ := v7_facts VD.out
    go_simp
    have VE := hid (v7_set (y0 := .int .i64 x.a) (y1 := .int .i64 x.b) (y2 := .int .i64 x.c) (y3 := .int .i64 x.d) (y4 := .int .i64 x.e) (y5 := .int .i64 x.f) (y6 := .int .i64 x.g) VD.out)
    have SN := hid (show Below w.heap.size w (((((((wd.setCell ⟨gz, 0, none⟩ (.int .i64 x.a)).setCell ⟨gz, 1, none⟩ (.int .i64 x.b)).setCell ⟨gz, 2, none⟩ (.int .i64 x.c)).setCell ⟨gz, 3, none⟩ (.int .i64 x.d)).setCell ⟨gz, 4, none⟩ (.int .i64 x.e)).setCell ⟨gz, 5, none⟩ (.int .i64 x.f)).setCell ⟨gz, 6, none⟩ (.int .i64 x.g)) ∧ (((((((wd.setCell ⟨gz, 0, none⟩ (.int .i64 x.a)).setCell ⟨gz, 1, none⟩ (.int .i64 x.b)).setCell ⟨gz, 2, none⟩ (.int .i64 x.c)).setCell ⟨gz, 3, none⟩ (.int .i64 x.d)).setCell ⟨gz, 4, none⟩ (.int .i64 x.e)).setCell ⟨gz, 5, none⟩ (.int .i64 x.f)).setCell ⟨gz, 6, none⟩ (.int .i64 x.g)).heap[ga]? = some (.cells #[.int .i64 x.a, .int .i64 x.b, .int .i64 x.c, .int .i64 x.d, .int .i64 x.e, .int .i64 x.f, .int .i64 x.g] 63) from ⟨v7_below hH.1 LZ.out.1, (v7_other LZ.out.2).trans hH.2⟩)
    refine hK.out _ _ SN.out (fun hH => ?_)
    clear SN
    clear hK K VD o0 o1 o2 o3 o4 o5 o6 z0 z1 z2 z3 z4 z5 z6
    generalize ((((((wd.setCell ⟨gz, 0, none⟩ (.int .i64 x.a)).setCell ⟨gz, 1, none⟩ (.int .i64 x.b)).setCell ⟨gz, 2, none⟩ (.int .i64 x.c)).setCell ⟨gz, 3, none⟩ (.int .i64 x.d)).setCell ⟨gz, 4, none⟩ (.int .i64 x.e)).setCell ⟨gz, 5, none⟩ (.int .i64 x.f)).setCell ⟨gz, 6, none⟩ (.int .i64 x.g) = we at *
    refine wpAnyH_take (i := 11) (v := .bool false) (by simp only [List.getElem?_toArray, List.getElem?_cons_succ, List.getElem?_cons_zero]; rfl) (by kernel_rfl) (by kernel_rfl) (by kernel_rfl) (by intro _ _ _ h; exact h) (Or.inl ⟨by rfl, fun w hS => by go_simp⟩) hH ?_
    simp only [Act.put, List.setIfInBounds_toArray, List.set_cons_zero, List.set_cons_succ]
    refine wpAnyH_done (by kernel_rfl) ?_ _
    have BE := hid hH.1
    clear hH
    go_wp2
    exact bodyPost_ret (v := .tuple #[.agg #[.int .i64 x.a, .int .i64 x.b, .int .i64 x.c, .int .i64 x.d, .int .i64 x.e, .int .i64 x.f, .int .i64 x.g], .bool false]) (results_ct rfl _ _ (.bool false) gz 63 _ _ _ rfl rfl VE.out Try.underlying63 rfl (by kernel_rfl)) rfl ⟨by rw [E.out], BE.out⟩
  by_cases qa : x.a = 3
  case neg =>
    have E := hid (show (fClr s x).2 = true from by simp [fClr, qa, qb])
    have nb : (x.b == s) = true := by simp [qb]
    have na : (x.a != 3) = true := by simp [qa]
    replace qb := hid qb
    replace qa := hid qa
    go_enter Try.func81, Try.ntmps81
    go_wp2_with fail
    generalize (w.alloc (.cells #[.int .i64 x.a, .int .i64 x.b, .int .i64 x.c, .int .i64 x.d, .int .i64 x.e, .int .i64 x.f, .int .i64 x.g] 63)).alloc (.cells #[.int .i64 0, .int .i64 0, .int .i64 0, .int .i64 0, .int .i64 0, .int .i64 0, .int .i64 0] 63) = wq at *
    obtain ⟨gz, hz⟩ : ∃ g, g = w.heap.size + 1 := ⟨_, rfl⟩
    rw [← hz] at VZ ⊢
    obtain ⟨ga, ha⟩ : ∃ g, g = w.heap.size := ⟨_, rfl⟩
    have LZ := hid (show w.heap.size ≤ gz ∧ ga ≠ gz by omega)
    rw [← ha] at VA ⊢
    replace ha := hid ha
    replace hz := hid hz
    refine wp_region_held_drew (S := fun w' => Below w.heap.size w w' ∧ w'.heap[ga]? = some (.cells #[.int .i64 x.a, .int .i64 x.b, .int .i64 x.c, .int .i64 x.d, .int .i64 x.e, .int .i64 x.f, .int .i64 x.g] 63)) (by kernel_rfl) ⟨BB.out.drew, VA.out⟩ (fun hH => ?_)
    have VD := hid (show wq.drew.heap[gz]? = some (.cells #[.int .i64 0, .int .i64 0, .int .i64 0, .int .i64 0, .int .i64 0, .int .i64 0, .int .i64 0] 63) from VZ.out)
    clear VZ VA BB
    generalize wq.drew = wd at hH VD ⊢
    refine wpAnyH_take (i := 0) (v := .agg #[.int .i64 x.a, .int .i64 x.b, .int .i64 x.c, .int .i64 x.d, .int .i64 x.e, .int .i64 x.f, .int .i64 x.g]) (by simp only [List.getElem?_toArray, List.getElem?_cons_zero]; rfl) (by kernel_rfl) (by kernel_rfl) (by kernel_rfl) (by intro _ _ _ h; exact h) (Or.inl ⟨by rfl, fun w hS => by (obtain ⟨⟨y0, y1, y2, y3, y4, y5, y6⟩, -⟩ := v7_facts hS.2; clear hS; go_simp)⟩) hH ?_
    simp only [Act.put, List.setIfInBounds_toArray, List.set_cons_zero, List.set_cons_succ]
    refine wpAnyH_take (i := 1) (v := .pointer (some ⟨ga, 1, none⟩)) (by simp only [List.getElem?_toArray, List.getElem?_cons_succ, List.getElem?_cons_zero]; rfl) (by kernel_rfl) (by kernel_rfl) (by kernel_rfl) (by intro _ _ _ h; exact h) (Or.inl ⟨by rfl, fun w hS => by go_simp⟩) hH ?_
    simp only [Act.put, List.setIfInBounds_toArray, List.set_cons_zero, List.set_cons_succ]
    refine wpAnyH_take (i := 2) (v := .int .i64 x.b) (by simp only [List.getElem?_toArray, List.getElem?_cons_succ, List.getElem?_cons_zero]; rfl) (by kernel_rfl) (by kernel_rfl) (by kernel_rfl) (by intro _ _ _ h; exact h) (Or.inl ⟨by rfl, fun w hS => by (obtain ⟨⟨y0, y1, y2, y3, y4, y5, y6⟩, -⟩ := v7_facts hS.2; clear hS; go_simp)⟩) hH ?_
    simp only [Act.put, List.setIfInBounds_toArray, List.set_cons_zero, List.set_cons_succ]
    refine wpAnyH_take (i := 3) (v := .int .i64 s) (by simp only [List.getElem?_toArray, List.getElem?_cons_succ, List.getElem?_cons_zero]; rfl) (by kernel_rfl) (by kernel_rfl) (by kernel_rfl) (by intro _ _ _ h; exact h) (Or.inl ⟨by rfl, fun w hS => by (have y := cell_kept hS.1 CS.out; go_simp)⟩) hH ?_
    simp only [Act.put, List.setIfInBounds_toArray, List.set_cons_zero, List.set_cons_succ]
    refine wpAnyH_take (i := 4) (v := .bool true) (by simp only [List.getElem?_toArray, List.getElem?_cons_succ, List.getElem?_cons_zero]; rfl) (by kernel_rfl) (by kernel_rfl) (by kernel_rfl) (by intro _ _ _ h; exact h) (Or.inl ⟨by rfl, fun w hS => by go_simp⟩) hH ?_
    simp only [Act.put, List.setIfInBounds_toArray, List.set_cons_zero, List.set_cons_succ]
    refine wpAnyH_take (i := 5) (v := .bool true) (by simp only [List.getElem?_toArray, List.getElem?_cons_succ, List.getElem?_cons_zero]; rfl) (by kernel_rfl) (by kernel_rfl) (by kernel_rfl) (by intro _ _ _ h; exact h) (Or.inl ⟨by rfl, fun w hS => by go_simp⟩) hH ?_
    simp only [Act.put, List.setIfInBounds_toArray, List.set_cons_zero, List.set_cons_succ]
    refine wpAnyH_take (i := 6) (v := .pointer (some ⟨ga, 0, none⟩)) (by simp only [List.getElem?_toArray, List.getElem?_cons_succ, List.getElem?_cons_zero]; rfl) (by kernel_rfl) (by kernel_rfl) (by kernel_rfl) (by intro _ _ _ h; exact h) (Or.inl ⟨by rfl, fun w hS => by go_simp⟩) hH ?_
    simp only [Act.put, List.setIfInBounds_toArray, List.set_cons_zero, List.set_cons_succ]
    refine wpAnyH_take (i := 7) (v := .int .i64 x.a) (by simp only [List.getElem?_toArray, List.getElem?_cons_succ, List.getElem?_cons_zero]; rfl) (by kernel_rfl) (by kernel_rfl) (by kernel_rfl) (by intro _ _ _ h; exact h) (Or.inl ⟨by rfl, fun w hS => by (obtain ⟨⟨y0, y1, y2, y3, y4, y5, y6⟩, -⟩ := v7_facts hS.2; clear hS; go_simp)⟩) hH ?_
    simp only [Act.put, List.setIfInBounds_toArray, List.set_cons_zero, List.set_cons_succ]
    refine wpAnyH_take (i := 8) (v := .bool true) (by simp only [List.getElem?_toArray, List.getElem?_cons_succ, List.getElem?_cons_zero]; rfl) (by kernel_rfl) (by kernel_rfl) (by kernel_rfl) (by intro _ _ _ h; exact h) (Or.inl ⟨by rfl, fun w hS => by go_simp⟩) hH ?_
    simp only [Act.put, List.setIfInBounds_toArray, List.set_cons_zero, List.set_cons_succ]
    refine wpAnyH_take (i := 9) (v := .bool true) (by simp only [List.getElem?_toArray, List.getElem?_cons_succ, List.getElem?_cons_zero]; rfl) (by kernel_rfl) (by kernel_rfl) (by kernel_rfl) (by intro _ _ _ h; exact h) (Or.inl ⟨by rfl, fun w hS => by go_simp⟩) hH ?_
    simp only [Act.put, List.setIfInBounds_toArray, List.set_cons_zero, List.set_cons_succ]
    refine wpAnyH_ready (rs := [10]) (by kernel_rfl) (by simp) ?_
    refine AllReadyH.cons (by simp only [List.getElem?_toArray, List.getElem?_cons_succ, List.getElem?_cons_zero]; rfl) (fun K hK => ?_) AllReadyH.nil
    obtain ⟨⟨o0, o1, o2, o3, o4, o5, o6⟩, z0, z1, z2, z3, z4, z5, z6⟩ := v7_facts VD.out
    go_simp
    have VE := hid (v7_set (y0 := .int .i64 x.a) (y1 := .int .i64 x.b) (y2 := .int .i64 x.c) (y3 := .int .i64 x.d) (y4 := .int .i64 x.e) (y5 := .int .i64 x.f) (y6 := .int .i64 x.g) VD.out)
    have SN := hid (show Below w.heap.size w (((((((wd.setCell ⟨gz, 0, none⟩ (.int .i64 x.a)).setCell ⟨gz, 1, none⟩ (.int .i64 x.b)).setCell ⟨gz, 2, none⟩ (.int .i64 x.c)).setCell ⟨gz, 3, none⟩ (.int .i64 x.d)).setCell ⟨gz, 4, none⟩ (.int .i64 x.e)).setCell ⟨gz, 5, none⟩ (.int .i64 x.f)).setCell ⟨gz, 6, none⟩ (.int .i64 x.g)) ∧ (((((((wd.setCell ⟨gz, 0, none⟩ (.int .i64 x.a)).setCell ⟨gz, 1, none⟩ (.int .i64 x.b)).setCell ⟨gz, 2, none⟩ (.int .i64 x.c)).setCell ⟨gz, 3, none⟩ (.int .i64 x.d)).setCell ⟨gz, 4, none⟩ (.int .i64 x.e)).setCell ⟨gz, 5, none⟩ (.int .i64 x.f)).setCell ⟨gz, 6, none⟩ (.int .i64 x.g)).heap[ga]? = some (.cells #[.int .i64 x.a, .int .i64 x.b, .int .i64 x.c, .int .i64 x.d, .int .i64 x.e, .int .i64 x.f, .int .i64 x.g] 63) from ⟨v7_below hH.1 LZ.out.1, (v7_other LZ.out.2).trans hH.2⟩)
    refine hK.out _ _ SN.out (fun hH => ?_)
    clear SN
    clear hK K VD o0 o1 o2 o3 o4 o5 o6 z0 z1 z2 z3 z4 z5 z6
    generalize ((((((wd.setCell ⟨gz, 0, none⟩ (.int .i64 x.a)).setCell ⟨gz, 1, none⟩ (.int .i64 x.b)).setCell ⟨gz, 2, none⟩ (.int .i64 x.c)).setCell ⟨gz, 3, none⟩ (.int .i64 x.d)).setCell ⟨gz, 4, none⟩ (.int .i64 x.e)).setCell ⟨gz, 5, none⟩ (.int .i64 x.f)).setCell ⟨gz, 6, none⟩ (.int .i64 x.g) = we at *
    refine wpAnyH_take (i := 11) (v := .bool true) (by simp only [List.getElem?_toArray, List.getElem?_cons_succ, List.getElem?_cons_zero]; rfl) (by kernel_rfl) (by kernel_rfl) (by kernel_rfl) (by intro _ _ _ h; exact h) (Or.inl ⟨by rfl, fun w hS => by go_simp⟩) hH ?_
    simp only [Act.put, List.setIfInBounds_toArray, List.set_cons_zero, List.set_cons_succ]
    refine wpAnyH_done (by kernel_rfl) ?_ _
    have BE := hid hH.1
    clear hH
    go_wp2
    exact bodyPost_ret (v := .tuple #[.agg #[.int .i64 x.a, .int .i64 x.b, .int .i64 x.c, .int .i64 x.d, .int .i64 x.e, .int .i64 x.f, .int .i64 x.g], .bool true]) (results_ct rfl _ _ (.bool true) gz 63 _ _ _ rfl rfl VE.out Try.underlying63 rfl (by kernel_rfl)) rfl ⟨by rw [E.out], BE.out⟩
  have E := hid (show (fClr s x).2 = false from by simp [fClr, qa, qb])
  have nb : (x.b == s) = true := by simp [qb]
  have na : (x.a != 3) = false := by simp [qa]
  replace qb := hid qb
  replace qa := hid qa
  go_enter Try.func81, Try.ntmps81
  go_wp2_with fail
  generalize (w.alloc (.cells #[.int .i64 x.a, .int .i64 x.b, .int .i64 x.c, .int .i64 x.d, .int .i64 x.e, .int .i64 x.f, .int .i64 x.g] 63)).alloc (.cells #[.int .i64 0, .int .i64 0, .int .i64 0, .int .i64 0, .int .i64 0, .int .i64 0, .int .i64 0] 63) = wq at *
  obtain ⟨gz, hz⟩ : ∃ g, g = w.heap.size + 1 := ⟨_, rfl⟩
  rw [← hz] at VZ ⊢
  obtain ⟨ga, ha⟩ : ∃ g, g = w.heap.size := ⟨_, rfl⟩
  have LZ := hid (show w.heap.size ≤ gz ∧ ga ≠ gz by omega)
  rw [← ha] at VA ⊢
  replace ha := hid ha
  replace hz := hid hz
  refine wp_region_held_drew (S := fun w' => Below w.heap.size w w' ∧ w'.heap[ga]? = some (.cells #[.int .i64 x.a, .int .i64 x.b, .int .i64 x.c, .int .i64 x.d, .int .i64 x.e, .int .i64 x.f, .int .i64 x.g] 63)) (by kernel_rfl) ⟨BB.out.drew, VA.out⟩ (fun hH => ?_)
  have VD := hid (show wq.drew.heap[gz]? = some (.cells #[.int .i64 0, .int .i64 0, .int .i64 0, .int .i64 0, .int .i64 0, .int .i64 0, .int .i64 0] 63) from VZ.out)
  clear VZ VA BB
  generalize wq.drew = wd at hH VD ⊢
  refine wpAnyH_take (i := 0) (v := .agg #[.int .i64 x.a, .int .i64 x.b, .int .i64 x.c, .int .i64 x.d, .int .i64 x.e, .int .i64 x.f, .int .i64 x.g]) (by simp only [List.getElem?_toArray, List.getElem?_cons_zero]; rfl) (by kernel_rfl) (by kernel_rfl) (by kernel_rfl) (by intro _ _ _ h; exact h) (Or.inl ⟨by rfl, fun w hS => by (obtain ⟨⟨y0, y1, y2, y3, y4, y5, y6⟩, -⟩ := v7_facts hS.2; clear hS; go_simp)⟩) hH ?_
  simp only [Act.put, List.setIfInBounds_toArray, List.set_cons_zero, List.set_cons_succ]
  refine wpAnyH_take (i := 1) (v := .pointer (some ⟨ga, 1, none⟩)) (by simp only [List.getElem?_toArray, List.getElem?_cons_succ, List.getElem?_cons_zero]; rfl) (by kernel_rfl) (by kernel_rfl) (by kernel_rfl) (by intro _ _ _ h; exact h) (Or.inl ⟨by rfl, fun w hS => by go_simp⟩) hH ?_
  simp only [Act.put, List.setIfInBounds_toArray, List.set_cons_zero, List.set_cons_succ]
  refine wpAnyH_take (i := 2) (v := .int .i64 x.b) (by simp only [List.getElem?_toArray, List.getElem?_cons_succ, List.getElem?_cons_zero]; rfl) (by kernel_rfl) (by kernel_rfl) (by kernel_rfl) (by intro _ _ _ h; exact h) (Or.inl ⟨by rfl, fun w hS => by (obtain ⟨⟨y0, y1, y2, y3, y4, y5, y6⟩, -⟩ := v7_facts hS.2; clear hS; go_simp)⟩) hH ?_
  simp only [Act.put, List.setIfInBounds_toArray, List.set_cons_zero, List.set_cons_succ]
  refine wpAnyH_take (i := 3) (v := .int .i64 s) (by simp only [List.getElem?_toArray, List.getElem?_cons_succ, List.getElem?_cons_zero]; rfl) (by kernel_rfl) (by kernel_rfl) (by kernel_rfl) (by intro _ _ _ h; exact h) (Or.inl ⟨by rfl, fun w hS => by (have y := cell_kept hS.1 CS.out; go_simp)⟩) hH ?_
  simp only [Act.put, List.setIfInBounds_toArray, List.set_cons_zero, List.set_cons_succ]
  refine wpAnyH_take (i := 4) (v := .bool true) (by simp only [List.getElem?_toArray, List.getElem?_cons_succ, List.getElem?_cons_zero]; rfl) (by kernel_rfl) (by kernel_rfl) (by kernel_rfl) (by intro _ _ _ h; exact h) (Or.inl ⟨by rfl, fun w hS => by go_simp⟩) hH ?_
  simp only [Act.put, List.setIfInBounds_toArray, List.set_cons_zero, List.set_cons_succ]
  refine wpAnyH_take (i := 5) (v := .bool true) (by simp only [List.getElem?_toArray, List.getElem?_cons_succ, List.getElem?_cons_zero]; rfl) (by kernel_rfl) (by kernel_rfl) (by kernel_rfl) (by intro _ _ _ h; exact h) (Or.inl ⟨by rfl, fun w hS => by go_simp⟩) hH ?_
  simp only [Act.put, List.setIfInBounds_toArray, List.set_cons_zero, List.set_cons_succ]
  refine wpAnyH_take (i := 6) (v := .pointer (some ⟨ga, 0, none⟩)) (by simp only [List.getElem?_toArray, List.getElem?_cons_succ, List.getElem?_cons_zero]; rfl) (by kernel_rfl) (by kernel_rfl) (by kernel_rfl) (by intro _ _ _ h; exact h) (Or.inl ⟨by rfl, fun w hS => by go_simp⟩) hH ?_
  simp only [Act.put, List.setIfInBounds_toArray, List.set_cons_zero, List.set_cons_succ]
  refine wpAnyH_take (i := 7) (v := .int .i64 x.a) (by simp only [List.getElem?_toArray, List.getElem?_cons_succ, List.getElem?_cons_zero]; rfl) (by kernel_rfl) (by kernel_rfl) (by kernel_rfl) (by intro _ _ _ h; exact h) (Or.inl ⟨by rfl, fun w hS => by (obtain ⟨⟨y0, y1, y2, y3, y4, y5, y6⟩, -⟩ := v7_facts hS.2; clear hS; go_simp)⟩) hH ?_
  simp only [Act.put, List.setIfInBounds_toArray, List.set_cons_zero, List.set_cons_succ]
  refine wpAnyH_take (i := 8) (v := .bool false) (by simp only [List.getElem?_toArray, List.getElem?_cons_succ, List.getElem?_cons_zero]; rfl) (by kernel_rfl) (by kernel_rfl) (by kernel_rfl) (by intro _ _ _ h; exact h) (Or.inl ⟨by rfl, fun w hS => by go_simp⟩) hH ?_
  simp only [Act.put, List.setIfInBounds_toArray, List.set_cons_zero, List.set_cons_succ]
  refine wpAnyH_take (i := 9) (v := .bool false) (by simp only [List.getElem?_toArray, List.getElem?_cons_succ, List.getElem?_cons_zero]; rfl) (by kernel_rfl) (by kernel_rfl) (by kernel_rfl) (by intro _ _ _ h; exact h) (Or.inl ⟨by rfl, fun w hS => by go_simp⟩) hH ?_
  simp only [Act.put, List.setIfInBounds_toArray, List.set_cons_zero, List.set_cons_succ]
  refine wpAnyH_ready (rs := [10]) (by kernel_rfl) (by simp) ?_
  refine AllReadyH.cons (by simp only [List.getElem?_toArray, List.getElem?_cons_succ, List.getElem?_cons_zero]; rfl) (fun K hK => ?_) AllReadyH.nil
  obtain ⟨⟨o0, o1, o2, o3, o4, o5, o6⟩, z0, z1, z2, z3, z4, z5, z6⟩ := v7_facts VD.out
  go_simp
  have VE := hid (v7_set (y0 := .int .i64 x.a) (y1 := .int .i64 x.b) (y2 := .int .i64 x.c) (y3 := .int .i64 x.d) (y4 := .int .i64 x.e) (y5 := .int .i64 x.f) (y6 := .int .i64 x.g) VD.out)
  have SN := hid (show Below w.heap.size w (((((((wd.setCell ⟨gz, 0, none⟩ (.int .i64 x.a)).setCell ⟨gz, 1, none⟩ (.int .i64 x.b)).setCell ⟨gz, 2, none⟩ (.int .i64 x.c)).setCell ⟨gz, 3, none⟩ (.int .i64 x.d)).setCell ⟨gz, 4, none⟩ (.int .i64 x.e)).setCell ⟨gz, 5, none⟩ (.int .i64 x.f)).setCell ⟨gz, 6, none⟩ (.int .i64 x.g)) ∧ (((((((wd.setCell ⟨gz, 0, none⟩ (.int .i64 x.a)).setCell ⟨gz, 1, none⟩ (.int .i64 x.b)).setCell ⟨gz, 2, none⟩ (.int .i64 x.c)).setCell ⟨gz, 3, none⟩ (.int .i64 x.d)).setCell ⟨gz, 4, none⟩ (.int .i64 x.e)).setCell ⟨gz, 5, none⟩ (.int .i64 x.f)).setCell ⟨gz, 6, none⟩ (.int .i64 x.g)).heap[ga]? = some (.cells #[.int .i64 x.a, .int .i64 x.b, .int .i64 x.c, .int .i64 x.d, .int .i64 x.e, .int .i64 x.f, .int .i64 x.g] 63) from ⟨v7_below hH.1 LZ.out.1, (v7_other LZ.out.2).trans hH.2⟩)
  refine hK.out _ _ SN.out (fun hH => ?_)
  clear SN
  clear hK K VD o0 o1 o2 o3 o4 o5 o6 z0 z1 z2 z3 z4 z5 z6
  generalize ((((((wd.setCell ⟨gz, 0, none⟩ (.int .i64 x.a)).setCell ⟨gz, 1, none⟩ (.int .i64 x.b)).setCell ⟨gz, 2, none⟩ (.int .i64 x.c)).setCell ⟨gz, 3, none⟩ (.int .i64 x.d)).setCell ⟨gz, 4, none⟩ (.int .i64 x.e)).setCell ⟨gz, 5, none⟩ (.int .i64 x.f)).setCell ⟨gz, 6, none⟩ (.int .i64 x.g) = we at *
  refine wpAnyH_take (i := 11) (v := .bool false) (by simp only [List.getElem?_toArray, List.getElem?_cons_succ, List.getElem?_cons_zero]; rfl) (by kernel_rfl) (by kernel_rfl) (by kernel_rfl) (by intro _ _ _ h; exact h) (Or.inl ⟨by rfl, fun w hS => by go_simp⟩) hH ?_
  simp only [Act.put, List.setIfInBounds_toArray, List.set_cons_zero, List.set_cons_succ]
  refine wpAnyH_done (by kernel_rfl) ?_ _
  have BE := hid hH.1
  clear hH
  go_wp2
  exact bodyPost_ret (v := .tuple #[.agg #[.int .i64 x.a, .int .i64 x.b, .int .i64 x.c, .int .i64 x.d, .int .i64 x.e, .int .i64 x.f, .int .i64 x.g], .bool false]) (results_ct rfl _ _ (.bool false) gz 63 _ _ _ rfl rfl VE.out Try.underlying63 rfl (by kernel_rfl)) rfl ⟨by rw [E.out], BE.out⟩
set_option maxHeartbeats 4000000 in
set_option maxRecDepth 100000 in
theorem pclr (v : Value) (cs : List Wai) (s : Int) (gs : Nat) (w : World) (h : RdJ w v cs) (hs : w.cell? ⟨gs, 0, none⟩ = some (.int .i64 s)) (hl : cs.length ≤ 40) :
    Calls Try.prog 79 #[v, .func (.func 81) #[] #[.pointer (some ⟨gs, 0, none⟩)]] w fun e w' => ∃ x y, e = .returned (.agg #[.int .i64 0, x, y]) ∧ Two w' w.heap.size x (ptL (fClr s) cs) y (ptE (fClr s) cs) ∧ Below w.heap.size w w' := by
  have H := hid h
  obtain ⟨a, cap, rfl, -, -, -⟩ := h.parts
  clear h
  have CS := hid hs
  clear hs
  have VR := hid (var_alloc (.cells #[.int .i64 0, .slice none 0 0, .slice none 0 0] 45) (heap_alloc_new w (.cells #[.int .i64 0, .slice none 0 0, .slice none 0 0] 45)))
  have VT := hid (heap_alloc_new (w.alloc (.cells #[.int .i64 0, .slice none 0 0, .slice none 0 0] 45)) (.cells #[.int .i64 0, .slice none 0 0, .slice none 0 0] 45))
  simp only [World.size_alloc] at VT
  have BB := hid (below_alloc2 w (.cells #[.int .i64 0, .slice none 0 0, .slice none 0 0] 45) (.cells #[.int .i64 0, .slice none 0 0, .slice none 0 0] 45))
  have GT := hid (vlt VT.out)
  go_enter Try.func79, Try.ntmps79
  go_wp2_with fail
  generalize (w.alloc (.cells #[.int .i64 0, .slice none 0 0, .slice none 0 0] 45)).alloc (.cells #[.int .i64 0, .slice none 0 0, .slice none 0 0] 45) = w0 at *
  obtain ⟨gT, hT⟩ : ∃ g, g = w.heap.size + 1 := ⟨_, rfl⟩
  rw [← hT] at VT GT ⊢
  obtain ⟨gR, hR⟩ : ∃ g, g = w.heap.size := ⟨_, rfl⟩
  have LZ := hid (show w.heap.size ≤ gR ∧ w.heap.size ≤ gT ∧ gR ≠ gT ∧ gR < gT + 1 ∧ w.heap.size ≤ gT + 1 by omega)
  rw [← hR] at VR ⊢
  replace hT := hid hT
  replace hR := hid hR
  go_loopw [6, 7, 8, 11] (fun s6 s7 s8 i wr => ∃ k : Nat, ∃ u4 u5 u6 u7 u8 : Value, k ≤ cs.length ∧ i = .int .i64 k ∧ s6 = u6 ∧ s7 = u7 ∧ s8 = u8 ∧ Hid (wr.heap[gR]? = some (.cells #[.int .i64 0, .slice none 0 0, .slice none 0 0] 45)) ∧ Hid (wr.heap[gT]? = some (.cells #[.int .i64 0, u4, u5] 45)) ∧ Hid (Two wr (gT + 1) u4 (ptL (fClr s) (cs.take k)) u5 (ptE (fClr s) (cs.take k))) ∧ Hid (Below w.heap.size w wr)) (fun _ _ _ i _ => cs.length - (intOf i).toNat)
  case atStart => exact ⟨0, _, _, _, _, _, by omega, rfl, rfl, rfl, rfl, VR, VT, hid ⟨OwJ.nil _ _, OwJ.nil _ _, fun g e => by cases e⟩, BB⟩
  case round =>
    obtain ⟨k, u4, u5, u6, u7, u8, hk, rfl, rfl, rfl, rfl, R0, V0, T0, BL⟩ := hrel
    clear VR VT BB GT
    by_cases hlt : k < cs.length
    · obtain ⟨a', cap', e, -, -, hcs⟩ := (H.out.below BL.out).parts
      cases e
      obtain ⟨b, o, rfl, q1⟩ := hcs k hlt
      obtain ⟨c0, c1, c2, c3, c4, c5, c6⟩ := j_cells q1
      have I1 := idx_ji b o cs.length cap k hlt
      have LXl := hid (Nat.le_trans (ptL_tl (fClr s) cs k) (Nat.le_trans hl (by decide : 40 ≤ 4194304)))
      have LXe := hid (Nat.le_trans (ptE_tl (fClr s) cs k) (Nat.le_trans hl (by decide : 40 ≤ 4194304)))
      have TSl := hid fun q => ptL_stay (f := (fClr s)) hlt q
      have TOl := hid fun q => ptL_over (f := (fClr s)) hlt q
      have TSe := hid fun q => ptE_stay (f := (fClr s)) hlt q
      have TOe := hid fun q => ptE_over (f := (fClr s)) hlt q
      obtain ⟨xl, hxl⟩ : ∃ x, x = ptL (fClr s) (cs.take k) := ⟨_, rfl⟩
      obtain ⟨xe, hxe⟩ : ∃ x, x = ptE (fClr s) (cs.take k) := ⟨_, rfl⟩
      rw [← hxl] at T0 LXl TSl TOl
      rw [← hxe] at T0 LXe TSe TOe
      obtain ⟨p4, k4, rfl, -, -, -⟩ := T0.out.1.rd.parts
      obtain ⟨p5, k5, rfl, -, -, -⟩ := T0.out.2.1.rd.parts
      obtain ⟨M, hM⟩ : ∃ M, M = cs[k] := ⟨_, rfl⟩
      rw [← hM] at c0 c1 c2 c3 c4 c5 c6 TSl TOl TSe TOe
      clear q1 hcs hM hxl hxe
      go_wp2_with fail
      refine (clrC M s gs _ (cell_kept BL.out CS.out)).mono ?_
      rintro e w1 ⟨rfl, hB⟩
      replace R0 := hid (var_below hB R0.out)
      replace V0 := hid (var_below hB V0.out)
      replace T0 := hid (T0.out.below hB)
      replace BL := hid (BL.out.trans (hB.mono BL.out.size))
      clear hB c0 c1 c2 c3 c4 c5 c6
      obtain ⟨X, hX⟩ : ∃ X : Wai, X = ((fClr s) M).1 := ⟨_, rfl⟩
      rw [← hX] at TSl TOe
      obtain ⟨d, hd⟩ : ∃ d, d = ((fClr s) M).2 := ⟨_, rfl⟩
      rw [← hd] at TSl TOl TSe TOe ⊢
      replace hd := hid hd
      rw [show (fClr s M).1 = M from rfl] at hX
      subst hX
      have B1 := hid (below_alloc2 w1 (.cells #[.int .i64 X.a, .int .i64 X.b, .int .i64 X.c, .int .i64 X.d, .int .i64 X.e, .int .i64 X.f, .int .i64 X.g] 63) (.cells #[.int .i64 X.a, .int .i64 X.b, .int .i64 X.c, .int .i64 X.d, .int .i64 X.e, .int .i64 X.f, .int .i64 X.g] 63))
      have R1 := hid (j_at (c := ⟨X.a, X.b, X.c, X.d, X.e, X.f, X.g⟩) (heap_alloc_new (w1.alloc (.cells #[.int .i64 X.a, .int .i64 X.b, .int .i64 X.c, .int .i64 X.d, .int .i64 X.e, .int .i64 X.f, .int .i64 X.g] 63)) (.cells #[.int .i64 X.a, .int .i64 X.b, .int .i64 X.c, .int .i64 X.d, .int .i64 X.e, .int .i64 X.f, .int .i64 X.g] 63)))
      simp only [World.size_alloc] at R1
      have V1 := hid (var_below (below_alloc1 w1 (.cells #[.int .i64 X.a, .int .i64 X.b, .int .i64 X.c, .int .i64 X.d, .int .i64 X.e, .int .i64 X.f, .int .i64 X.g] 63)) V0.out)
      have V2 := hid (var_below B1.out V0.out)
      have R2 := hid (var_below B1.out R0.out)
      have T2 := hid (T0.out.below B1.out)
      have B2 := hid (BL.out.trans (B1.out.mono BL.out.size))
      have S2 := hid (show gT + 1 ≤ ((w1.alloc (.cells #[.int .i64 X.a, .int .i64 X.b, .int .i64 X.c, .int .i64 X.d, .int .i64 X.e, .int .i64 X.f, .int .i64 X.g] 63)).alloc (.cells #[.int .i64 X.a, .int .i64 X.b, .int .i64 X.c, .int .i64 X.d, .int .i64 X.e, .int .i64 X.f, .int .i64 X.g] 63)).heap.size by have := vlt V0.out; simp; omega)
      obtain ⟨⟨q0, q1, q2⟩, z0, z1, z2⟩ := var3_facts2 V0.out
      obtain ⟨⟨r0, r1, r2⟩, y0, y1, y2⟩ := var3_facts2 V1.out
      clear B1 R0 V0 T0 BL V1
      cases d
      · have TA := hid (TSl.out rfl)
        have TB := hid (TSe.out rfl)
        clear TSl TOl TSe TOe
        go_wp2_with (at_builtin; refine list_appJ rfl _ _ rfl _ xl X (gT + 1) (w1.heap.size + 1) 1 rfl rfl T2.out.1 R1.out LXl.out S2.out ?_; intro g3 cap3 w3 hO hG hL; have T3 := hid (Two.app T2.out hO hG (fun g e => by cases e; exact hL)); have B3 := hid (B2.out.grown hG (by have := LZ.out; have := S2.out; omega) (fun b e => by have := T2.out.1.lt b e; have := LZ.out; omega)); have V3 := hid (var_grownN hG V2.out (fun e => by have := T2.out.1.lt gT e; omega)); have R3 := hid (var_grownN hG R2.out (fun e => by have := T2.out.1.lt gR e; have := LZ.out; omega)); obtain ⟨⟨q0, q1, q2⟩, z0, z1, z2⟩ := var3_facts2 V3.out)
        have VN := hid (set1_of3 (y' := .slice (some ⟨g3, 0, none⟩) (xl.length + 1) cap3) V3.out)
        have RN := hid (var_setother (k := gT) (i := 1) (x := .slice (some ⟨g3, 0, none⟩) (xl.length + 1) cap3) R3.out LZ.out.2.2.1)
        have TN := hid (T3.out.under ⟨gT, 1, none⟩ (Nat.lt_succ_self gT) (.slice (some ⟨g3, 0, none⟩) (xl.length + 1) cap3))
        have BN := hid (B3.out.setCell (p := ⟨gT, 1, none⟩) LZ.out.2.1 (.slice (some ⟨g3, 0, none⟩) (xl.length + 1) cap3))
        clear hO hG hL T2 B2 R1 S2 V2 R2 T3 B3 V3 R3
        go_roundw
        case rel => exact ⟨k + 1, _, _, _, _, _, hlt, by go_num, rfl, rfl, rfl, RN, VN, hid (by rw [TA.out, TB.out]; exact TN.out), BN⟩
        case measure => simp [intOf]; omega
      
      · have TA := hid (TOl.out rfl)
        have TB := hid (TOe.out rfl)
        clear TSl TOl TSe TOe
        go_wp2_with (at_builtin; refine list_appJ rfl _ _ rfl _ xe X (gT + 1) (w1.heap.size + 1) 1 rfl rfl T2.out.swap.1 R1.out LXe.out S2.out ?_; intro g3 cap3 w3 hO hG hL; have T3 := hid (Two.app T2.out.swap hO hG (fun g e => by cases e; exact hL)); have B3 := hid (B2.out.grown hG (by have := LZ.out; have := S2.out; omega) (fun b e => by have := T2.out.swap.1.lt b e; have := LZ.out; omega)); have V3 := hid (var_grownN hG V2.out (fun e => by have := T2.out.swap.1.lt gT e; omega)); have R3 := hid (var_grownN hG R2.out (fun e => by have := T2.out.swap.1.lt gR e; have := LZ.out; omega)); obtain ⟨⟨q0, q1, q2⟩, z0, z1, z2⟩ := var3_facts2 V3.out)
        have VN := hid (set2_of3 (z' := .slice (some ⟨g3, 0, none⟩) (xe.length + 1) cap3) V3.out)
        have RN := hid (var_setother (k := gT) (i := 2) (x := .slice (some ⟨g3, 0, none⟩) (xe.length + 1) cap3) R3.out LZ.out.2.2.1)
        have TN := hid (T3.out.under ⟨gT, 2, none⟩ (Nat.lt_succ_self gT) (.slice (some ⟨g3, 0, none⟩) (xe.length + 1) cap3))
        have BN := hid (B3.out.setCell (p := ⟨gT, 2, none⟩) LZ.out.2.1 (.slice (some ⟨g3, 0, none⟩) (xe.length + 1) cap3))
        clear hO hG hL T2 B2 R1 S2 V2 R2 T3 B3 V3 R3
        go_roundw
        case rel => exact ⟨k + 1, _, _, _, _, _, hlt, by go_num, rfl, rfl, rfl, RN, VN, hid (by rw [TA.out, TB.out]; exact TN.out.swap), BN⟩
        case measure => simp [intOf]; omega
    · have hke : k = cs.length := by omega
      subst hke
      rw [List.take_length] at T0
      obtain ⟨p4, k4, rfl, -, -, -⟩ := T0.out.1.rd.parts
      obtain ⟨p5, k5, rfl, -, -, -⟩ := T0.out.2.1.rd.parts
      obtain ⟨⟨q0, q1, q2⟩, -⟩ := var3_facts2 V0.out
      obtain ⟨⟨r0, r1, r2⟩, y0, y1, y2⟩ := var3_facts2 R0.out
      obtain ⟨xl, hxl⟩ : ∃ x, x = ptL (fClr s) cs := ⟨_, rfl⟩
      obtain ⟨xe, hxe⟩ : ∃ x, x = ptE (fClr s) cs := ⟨_, rfl⟩
      rw [← hxl, ← hxe] at T0
      rw [← hxl] at q1 V0
      rw [← hxe] at q2 V0
      replace hxl := hid hxl
      replace hxe := hid hxe
      have RN := hid (var3_set2 (x' := .int .i64 0) (y' := .slice p4 xl.length k4) (z' := .slice p5 xe.length k5) R0.out)
      have TN := hid (((T0.out.under ⟨gR, 0, none⟩ LZ.out.2.2.2.1 (.int .i64 0)).under ⟨gR, 1, none⟩ LZ.out.2.2.2.1 (.slice p4 xl.length k4)).under ⟨gR, 2, none⟩ LZ.out.2.2.2.1 (.slice p5 xe.length k5))
      have BN := hid (below_set3 (x := .int .i64 0) (y := .slice p4 xl.length k4) (z := .slice p5 xe.length k5) BL.out LZ.out.1)
      clear R0 V0 T0 BL
      go_wp2
      exact bodyPost_ret (v := .agg #[.int .i64 0, .slice p4 xl.length k4, .slice p5 xe.length k5]) (results_cell_row rfl _ _ gR 45 _ _ _ rfl RN.out Try.underlying45 rfl (by kernel_rfl)) rfl ⟨_, _, rfl, by rw [← hxl.out, ← hxe.out]; exact TN.out.lower LZ.out.2.2.2.2, BN.out⟩
set_option maxHeartbeats 2000000 in
set_option maxRecDepth 100000 in
theorem iclr (v : Value) (cs : List Wai) (s : Int) (w : World) (h : RdJ w v cs) :
    Calls Try.prog 21 #[v, .int .i64 s] w fun e w' => ∃ x y, e = .returned (.agg #[.int .i64 (crC cs s), x, y]) ∧ Two w' w.heap.size x (crL cs s) y (crE cs s) ∧ Below w.heap.size w w' := by
  have H := hid (h.below (below_alloc2 w (.cells #[.int .i64 s] 2) (.cells #[.int .i64 0, .slice none 0 0, .slice none 0 0] 45)))
  obtain ⟨a, cap, rfl, -, -, -⟩ := h.parts
  clear h
  have VS := hid (var_alloc (.cells #[.int .i64 0, .slice none 0 0, .slice none 0 0] 45) (heap_alloc_new w (.cells #[.int .i64 s] 2)))
  have V := hid (heap_alloc_new (w.alloc (.cells #[.int .i64 s] 2)) (.cells #[.int .i64 0, .slice none 0 0, .slice none 0 0] 45))
  simp only [World.size_alloc] at V
  have BB := hid (below_alloc2 w (.cells #[.int .i64 s] 2) (.cells #[.int .i64 0, .slice none 0 0, .slice none 0 0] 45))
  go_enter Try.func21, Try.ntmps21
  go_wp2_with fail
  generalize (w.alloc (.cells #[.int .i64 s] 2)).alloc (.cells #[.int .i64 0, .slice none 0 0, .slice none 0 0] 45) = w0 at *
  obtain ⟨g, hg⟩ : ∃ g, g = w.heap.size + 1 := ⟨_, rfl⟩
  rw [← hg] at V ⊢
  have LG := hid (show w.heap.size ≤ g by omega)
  obtain ⟨gs, hgs⟩ : ∃ g, g = w.heap.size := ⟨_, rfl⟩
  rw [← hgs] at VS ⊢
  replace hg := hid hg
  replace hgs := hid hgs
  refine (i9f _ cs _ H.out).mono ?_
  rintro e w1 ⟨rfl, hB⟩
  replace H := hid (H.out.below hB)
  replace V := hid (var_below hB V.out)
  replace BB := hid (BB.out.trans (hB.mono BB.out.size))
  replace VS := hid (var_below hB VS.out)
  clear hB
  obtain ⟨t, ht⟩ : ∃ t, t = wtF cs := ⟨_, rfl⟩
  rw [← ht]
  replace ht := hid ht
  by_cases h0 : t = 0
  case neg =>
    have F0 : ¬ wtF cs = 0 := by rw [← ht.out]; exact h0
    have E1 := hid (show crC cs s = t by unfold crC; rw [if_neg F0]; rw [ht.out])
    have E2 := hid (show crL cs s = [] by unfold crL; rw [if_neg (by first | exact F0 | (rw [E1.out]; exact h0))])
    have E3 := hid (show crE cs s = [] by unfold crE; rw [if_neg (by first | exact F0 | (rw [E1.out]; exact h0))])
    clear F0
    obtain ⟨⟨q0, q1, q2⟩, z0, z1, z2⟩ := var3_facts2 V.out
    have V2 := hid (var3_set2 (x' := .int .i64 t) (y' := .slice none 0 0) (z' := .slice none 0 0) V.out)
    have B2 := hid (below_set3 (x := .int .i64 t) (y := .slice none 0 0) (z := .slice none 0 0) BB.out LG.out)
    go_wp2
    clear q0 q1 q2 z0 z1 z2
    exact bodyPost_ret (v := .agg #[.int .i64 t, .slice none 0 0, .slice none 0 0]) (results_cell_row rfl _ _ g 45 _ _ _ rfl V2.out Try.underlying45 rfl (by kernel_rfl)) rfl ⟨_, _, by rw [E1.out], by rw [E2.out, E3.out]; exact ⟨OwJ.nil _ _, OwJ.nil _ _, fun g e => by cases e⟩, B2.out⟩
  subst h0
  have f0 : w1.cell? ⟨gs, 0, none⟩ = some (.int .i64 s) := by rw [cell_of_row w1 gs 0 _ _ _ VS.out]; rfl
  have VP := hid (heap_alloc_new w1 (.cells (rowSp [(s, 0, 1000000)]).toArray 100))
  have hA := below_alloc1 w1 (.cells #[.int .i64 s, .int .i64 0, .int .i64 1000000] 100)
  replace V := hid (var_below hA V.out)
  replace BB := hid (BB.out.trans (hA.mono BB.out.size))
  replace VS := hid (var_below hA VS.out)
  replace H := hid (H.out.below hA)
  clear hA
  go_wp2_with fail
  refine (withinL [(s, 0, 1000000)] (by simp) _ _ VP.out).mono ?_
  rintro e w2 ⟨rfl, hB⟩
  replace V := hid (var_below hB V.out)
  replace BB := hid (BB.out.trans (hB.mono BB.out.size))
  replace VS := hid (var_below hB VS.out)
  replace H := hid (H.out.below hB)
  clear hB VP f0
  rw [show inS [(s, 0, 1000000)] = inB s 0 1000000 by simp [inS]]
  obtain ⟨r, hr⟩ : ∃ r, r = inB s 0 1000000 := ⟨_, rfl⟩
  rw [← hr]
  cases r
  case false =>
    have E1 := hid (show crC cs s = 3 by unfold crC; rw [if_pos ht.out.symm, ← hr]; rfl)
    have E2 := hid (show crL cs s = [] by unfold crL; rw [if_neg (by rw [E1.out]; decide)])
    have E3 := hid (show crE cs s = [] by unfold crE; rw [if_neg (by rw [E1.out]; decide)])
    replace hr := hid hr
    obtain ⟨⟨q0, q1, q2⟩, z0, z1, z2⟩ := var3_facts2 V.out
    have V2 := hid (var3_set2 (x' := .int .i64 3) (y' := .slice none 0 0) (z' := .slice none 0 0) V.out)
    have B2 := hid (below_set3 (x := .int .i64 3) (y := .slice none 0 0) (z := .slice none 0 0) BB.out LG.out)
    go_wp2
    clear q0 q1 q2 z0 z1 z2
    exact bodyPost_ret (v := .agg #[.int .i64 3, .slice none 0 0, .slice none 0 0]) (results_cell_row rfl _ _ g 45 _ _ _ rfl V2.out Try.underlying45 rfl (by kernel_rfl)) rfl ⟨_, _, by rw [E1.out], by rw [E2.out, E3.out]; exact ⟨OwJ.nil _ _, OwJ.nil _ _, fun g e => by cases e⟩, B2.out⟩
  have E1 := hid (show crC cs s = 0 by unfold crC; rw [if_pos ht.out.symm, ← hr]; rfl)
  replace hr := hid hr
  have E2 := hid (show crL cs s = ptL (fClr s) cs by unfold crL; rw [if_pos (by first | exact ht.out.symm | exact E1.out)])
  have E3 := hid (show crE cs s = ptE (fClr s) cs by unfold crE; rw [if_pos (by first | exact ht.out.symm | exact E1.out)])
  have WL := hid (wtF_len ht.out.symm)
  have WE := hid fun k hk => wt1_e (wtF_get ht.out.symm k hk)
  have f0 := hid (show w2.cell? ⟨gs, 0, none⟩ = some (.int .i64 s) by rw [cell_of_row w2 gs 0 _ _ _ VS.out]; rfl)
  have GV := hid (vlt V.out)
  go_wp2_with fail
  refine (pclr _ cs s _ _ H.out f0.out WL.out).mono ?_
  rintro e w3 ⟨x, y, rfl, hT, hB⟩
  obtain ⟨px, kx, rfl, -, -, -⟩ := hT.1.rd.parts
  obtain ⟨py, ky, rfl, -, -, -⟩ := hT.2.1.rd.parts
  have RT := hid hT
  replace V := hid (var_below hB V.out)
  replace BB := hid (BB.out.trans (hB.mono BB.out.size))
  replace VS := hid (var_below hB VS.out)
  clear hB hT H
  rw [← E2.out, ← E3.out] at RT
  rw [← E2.out, ← E3.out]
  obtain ⟨xs, hxs⟩ : ∃ z, z = crL cs s := ⟨_, rfl⟩
  obtain ⟨ys, hys⟩ : ∃ z, z = crE cs s := ⟨_, rfl⟩
  rw [← hxs, ← hys] at RT
  rw [← hxs, ← hys]
  clear E2 E3
  replace hxs := hid hxs
  replace hys := hid hys
  have TN := hid (((RT.out.under ⟨g, 0, none⟩ GV.out (.int .i64 0)).under ⟨g, 1, none⟩ GV.out (.slice px xs.length kx)).under ⟨g, 2, none⟩ GV.out (.slice py ys.length ky))
  have LW := hid (Nat.le_of_lt (Nat.lt_of_le_of_lt LG.out GV.out))
  obtain ⟨⟨q0, q1, q2⟩, z0, z1, z2⟩ := var3_facts2 V.out
  have V2 := hid (var3_set2 (x' := .int .i64 0) (y' := .slice px xs.length kx) (z' := .slice py ys.length ky) V.out)
  have B2 := hid (below_set3 (x := .int .i64 0) (y := .slice px xs.length kx) (z := .slice py ys.length ky) BB.out LG.out)
  go_wp2
  clear q0 q1 q2 z0 z1 z2
  exact bodyPost_ret (v := .agg #[.int .i64 0, .slice px xs.length kx, .slice py ys.length ky]) (results_cell_row rfl _ _ g 45 _ _ _ rfl V2.out Try.underlying45 rfl (by kernel_rfl)) rfl ⟨_, _, by rw [E1.out], by rw [← hxs.out, ← hys.out]; exact TN.out.lower LW.out, B2.out⟩
end Go.Proofs.Ytalaolfcdaaaoaa.W
