/-
  The law of targets, out of the contracts of its callees. Generated text.
-/
import Derived.Laws.StructEq
import Derived.Test.YtalaolfcdaaaoaaTgLem
import Derived.Test.YtalaolfcdaaaoaaDrawTg
import Derived.Test.YtalaolfcdaaaoaaLwNu
import Derived.Test.YtalaolfcdaaaoaaNxS
import Derived.Test.YtalaolfcdaaaoaaNxI
import Derived.Test.YtalaolfcdaaaoaaHpS
import Derived.Test.YtalaolfcdaaaoaaHpI
import Derived.Test.YtalaolfcdaaaoaaVwFi
namespace Go.Proofs.Ytalaolfcdaaaoaa.W
open Go.ChangeShapes Go.WideShapes Go.ChangeAt Go.RowKit
open Go.Proofs.Ytalaolfcdaaaoaa.M

theorem guard_ir : Try.prog.eqGuardType Try.prog.depth 28 = false := by kernel_rfl
set_option maxHeartbeats 2000000 in
set_option maxRecDepth 100000 in
theorem neq_ir (a b : Int) (w : World) : (binOp .neq 28 (.agg #[.int .i64 a, .int .i64 b]) (.agg #[.int .i64 a, .int .i64 b])).run Try.prog w = .ok (.bool false) w := by
  have hg := guard_ir
  go_simp
theorem fldR1 (a b : Int) (w : World) : (Instr.field 28 (.agg #[.int .i64 a, .int .i64 b]) 1).run Try.prog w = .ok (.int .i64 b) w := by kernel_rfl
theorem fldTV0 (c : Int) (a : Option Addr) (n k : Nat) (w : World) : (Instr.field 40 (.agg #[.int .i64 c, .slice a n k, .bool false]) 0).run Try.prog w = .ok (.int .i64 c) w := by kernel_rfl
theorem fldT0 (c : Int) (a : Option Addr) (n k : Nat) (w : World) : (Instr.field 34 (.agg #[.int .i64 c, .slice a n k]) 0).run Try.prog w = .ok (.int .i64 c) w := by kernel_rfl
theorem fldT1 (c : Int) (a : Option Addr) (n k : Nat) (w : World) : (Instr.field 34 (.agg #[.int .i64 c, .slice a n k]) 1).run Try.prog w = .ok (.slice a n k) w := by kernel_rfl
set_option maxHeartbeats 16000000 in
set_option maxRecDepth 100000 in
theorem law_tg (v : Value) (l : List Nat) (w : World) (h : Rd w v l) (y : Byt l) :
    Calls Try.prog 3 #[v] w fun e w' => e = .returned (.bool true) ∧ Below w.heap.size w w' := by
  have RC := hid h
  obtain ⟨q, cap, rfl, _, _, _⟩ := h.parts
  clear h
  by_cases hl : l.length ≤ 1048576
  case neg =>
    go_enter Try.func3, Try.ntmps3
    go_wp2_with (go_at_call 9; go_in)
    go_ret
    exact ⟨rfl, Below.refl _ _⟩
  go_enter Try.func3, Try.ntmps3
  go_wp2_with (go_at_call 9; go_in)
  refine (drNt _ l _ RC.out y hl).mono ?_
  rintro e w1 ⟨u, cs, self, last, rfl, hV, hc, hB⟩
  obtain ⟨pv, cv, rfl, -, -, -⟩ := hV.parts
  replace RC := hid (RC.out.below hB)
  have BB := hid hB
  have HV := hid hV
  clear hB hV
  go_wp2_with fail
  obtain ⟨t, ht⟩ : ∃ t, t = ntA cs self last := ⟨_, rfl⟩
  have ST := hid (fun (w : World) (v : Value) (h : RdC w v cs) => show Calls Try.prog 14 #[v, .int .i64 self, .int .i64 last] w fun e w' => e = .returned (.agg #[.int .i64 t.1, .int .i64 t.2]) ∧ Below w.heap.size w w' by rw [ht]; exact snt v cs self last w h)
  have IT := hid (fun (w : World) (v : Value) (h : RdC w v cs) => show Calls Try.prog 11 #[v, .int .i64 self, .int .i64 last] w fun e w' => e = .returned (.agg #[.int .i64 t.1, .int .i64 t.2]) ∧ Below w.heap.size w w' by rw [ht]; exact int v cs self last w h)
  have FT := hid (fun h0 : t.1 = 0 => by rw [ht] at h0; exact tg_law h0 : t.1 = 0 → _)
  clear ht
  refine (IT.out _ _ HV.out).mono ?_
  rintro e w2 ⟨rfl, hB⟩
  replace RC := hid (RC.out.below hB)
  replace HV := hid (HV.out.below hB)
  replace BB := hid (BB.out.trans (hB.mono BB.out.size))
  clear hB
  have VT := hid (heap_alloc_new w2 (.cells #[.int .i64 t.1, .int .i64 t.2] 28))
  have hA := below_alloc1 w2 (.cells #[.int .i64 t.1, .int .i64 t.2] 28)
  replace RC := hid (RC.out.below hA)
  replace HV := hid (HV.out.below hA)
  replace BB := hid (BB.out.trans (hA.mono BB.out.size))
  clear hA
  go_wp2_with fail
  generalize w2.alloc (.cells #[.int .i64 t.1, .int .i64 t.2] 28) = w3 at *
  obtain ⟨gt, hg⟩ : ∃ g, g = w2.heap.size := ⟨_, rfl⟩
  rw [← hg] at VT ⊢
  clear hg
  refine (drHp _ l _ RC.out y hl).mono ?_
  rintro e w4 ⟨u, ds, me, target, most, rfl, hW, hd, hB⟩
  obtain ⟨pw, cw, rfl, -, -, -⟩ := hW.parts
  replace RC := hid (RC.out.below hB)
  replace HV := hid (HV.out.below hB)
  replace VT := hid (var_below hB VT.out)
  replace BB := hid (BB.out.trans (hB.mono BB.out.size))
  clear hB
  have HW := hid hW
  clear hW RC
  go_wp2_with fail
  obtain ⟨hh, eh⟩ : ∃ z, z = hpR ds me target most := ⟨_, rfl⟩
  obtain ⟨hc, ec⟩ : ∃ z, z = hpC ds me target most := ⟨_, rfl⟩
  have SH := hid (fun (w : World) (v : Value) (h : RdC w v ds) => show Calls Try.prog 15 #[v, .int .i64 me, .int .i64 target, .int .i64 most] w fun e w' => ∃ u, e = .returned (.agg #[.int .i64 hc, u]) ∧ RdZ w' u hh ∧ Below w.heap.size w w' by rw [eh, ec]; exact (shp v ds me target most w h).mono (fun e w' ⟨u, h1, h2, h3⟩ => ⟨u, h1, h2.rd, h3⟩))
  have IH := hid (fun (w : World) (v : Value) (h : RdC w v ds) => show Calls Try.prog 13 #[v, .int .i64 me, .int .i64 target, .int .i64 most] w fun e w' => ∃ u, e = .returned (.agg #[.int .i64 hc, u]) ∧ RdZ w' u hh ∧ Below w.heap.size w w' by rw [eh, ec]; exact (ihf v ds me target most w h).mono (fun e w' ⟨u, h1, h2, h3⟩ => ⟨u, h1, h2.rd, h3⟩))
  have HL := hid (show hh.length ≤ 1048576 by rw [eh]; exact hpR_small ds me target most)
  have HM := hid (fun h0 : hc = 0 => by rw [ec] at h0; rw [eh]; exact hp_most h0 : hc = 0 → (hh.length : Int) ≤ most)
  clear eh ec
  refine (IH.out _ _ HW.out).mono ?_
  rintro e w5 ⟨u, rfl, hR, hB⟩
  obtain ⟨ph, kh, rfl, -, -, -⟩ := hR.parts
  replace HV := hid (HV.out.below hB)
  replace HW := hid (HW.out.below hB)
  replace VT := hid (var_below hB VT.out)
  replace BB := hid (BB.out.trans (hB.mono BB.out.size))
  clear hB
  have HR := hid hR
  clear hR
  have VH := hid (heap_alloc_new w5 (.cells #[.int .i64 hc, .slice ph hh.length kh] 34))
  have hA := below_alloc1 w5 (.cells #[.int .i64 hc, .slice ph hh.length kh] 34)
  replace HV := hid (HV.out.below hA)
  replace HW := hid (HW.out.below hA)
  replace HR := hid (HR.out.below hA)
  replace VT := hid (var_below hA VT.out)
  replace BB := hid (BB.out.trans (hA.mono BB.out.size))
  clear hA
  obtain ⟨w6, hw6⟩ : ∃ z, z = w5.alloc (.cells #[.int .i64 hc, .slice ph hh.length kh] 34) := ⟨_, rfl⟩
  go_wp2
  rw [← hw6] at VT VH HV HW HR BB ⊢
  clear hw6
  obtain ⟨gh, hg⟩ : ∃ g, g = w5.heap.size := ⟨_, rfl⟩
  rw [← hg] at VH ⊢
  clear hg IT IH
  obtain ⟨t0, t1, -, -⟩ := var2_facts VT.out
  obtain ⟨h0, h1, -, -⟩ := var2_facts VH.out
  refine wp_region_held_drew (S := fun w' => Below w6.heap.size w6 w') (by kernel_rfl) (Below.refl _ _).drew (fun hH => ?_)
  generalize w6.drew = y0 at hH ⊢
  refine wpAnyH_take (i := 0) (v := .agg #[.int .i64 t.1, .int .i64 t.2]) (by simp only [List.getElem?_toArray, List.getElem?_cons_zero]; rfl) (by kernel_rfl) (by kernel_rfl) (by kernel_rfl) (by intro _ _ _ h; exact h) (Or.inl ⟨by rfl, fun w hS => by (have y0 := cell_kept hS t0; have y1 := cell_kept hS t1; go_simp)⟩) hH ?_
  simp only [Act.put, List.setIfInBounds_toArray, List.set_cons_zero, List.set_cons_succ]
  refine wpAnyH_take (i := 1) (v := .slice pv cs.length cv) (by simp only [List.getElem?_toArray, List.getElem?_cons_succ, List.getElem?_cons_zero]; rfl) (by kernel_rfl) (by kernel_rfl) (by kernel_rfl) (by intro _ _ _ h; exact h) (Or.inl ⟨by rfl, fun w hS => by go_simp⟩) hH ?_
  simp only [Act.put, List.setIfInBounds_toArray, List.set_cons_zero, List.set_cons_succ]
  refine wpAnyH_take (i := 2) (v := .int .i64 self) (by simp only [List.getElem?_toArray, List.getElem?_cons_succ, List.getElem?_cons_zero]; rfl) (by kernel_rfl) (by kernel_rfl) (by kernel_rfl) (by intro _ _ _ h; exact h) (Or.inl ⟨by rfl, fun w hS => by go_simp⟩) hH ?_
  simp only [Act.put, List.setIfInBounds_toArray, List.set_cons_zero, List.set_cons_succ]
  refine wpAnyH_take (i := 3) (v := .int .i64 last) (by simp only [List.getElem?_toArray, List.getElem?_cons_succ, List.getElem?_cons_zero]; rfl) (by kernel_rfl) (by kernel_rfl) (by kernel_rfl) (by intro _ _ _ h; exact h) (Or.inl ⟨by rfl, fun w hS => by go_simp⟩) hH ?_
  simp only [Act.put, List.setIfInBounds_toArray, List.set_cons_zero, List.set_cons_succ]
  refine wpAnyH_ready (rs := [4]) (by kernel_rfl) (by simp) ?_
  refine AllReadyH.cons (by simp only [List.getElem?_toArray, List.getElem?_cons_succ, List.getElem?_cons_zero]; rfl) (fun K hK => ?_) AllReadyH.nil
  go_simp
  refine (ST.out _ _ (HV.out.below hH)).mono ?_
  rintro e x4 ⟨rfl, hM⟩
  refine hK.out _ _ (hH.trans (hM.mono hH.size)) (fun hH => ?_)
  clear hK K hM
  refine wpAnyH_take (i := 5) (v := .bool false) (by simp only [List.getElem?_toArray, List.getElem?_cons_succ, List.getElem?_cons_zero]; rfl) (by kernel_rfl) (by kernel_rfl) (by kernel_rfl) (by intro _ _ _ h; exact h) (Or.inl ⟨by rfl, fun w hS => by (have hn := neq_ir t.1 t.2; go_simp)⟩) hH ?_
  simp only [Act.put, List.setIfInBounds_toArray, List.set_cons_zero, List.set_cons_succ]
  refine wpAnyH_take (i := 6) (v := .bool false) (by simp only [List.getElem?_toArray, List.getElem?_cons_succ, List.getElem?_cons_zero]; rfl) (by kernel_rfl) (by kernel_rfl) (by kernel_rfl) (by intro _ _ _ h; exact h) (Or.inl ⟨by rfl, fun w hS => by go_simp⟩) hH ?_
  simp only [Act.put, List.setIfInBounds_toArray, List.set_cons_zero, List.set_cons_succ]
  refine wpAnyH_take (i := 7) (v := .pointer (some ⟨gh, 0, none⟩)) (by simp only [List.getElem?_toArray, List.getElem?_cons_succ, List.getElem?_cons_zero]; rfl) (by kernel_rfl) (by kernel_rfl) (by kernel_rfl) (by intro _ _ _ h; exact h) (Or.inl ⟨by rfl, fun w hS => by go_simp⟩) hH ?_
  simp only [Act.put, List.setIfInBounds_toArray, List.set_cons_zero, List.set_cons_succ]
  refine wpAnyH_take (i := 8) (v := .int .i64 hc) (by simp only [List.getElem?_toArray, List.getElem?_cons_succ, List.getElem?_cons_zero]; rfl) (by kernel_rfl) (by kernel_rfl) (by kernel_rfl) (by intro _ _ _ h; exact h) (Or.inl ⟨by rfl, fun w hS => by (have y0 := cell_kept hS h0; go_simp)⟩) hH ?_
  simp only [Act.put, List.setIfInBounds_toArray, List.set_cons_zero, List.set_cons_succ]
  refine wpAnyH_take (i := 9) (v := .slice pw ds.length cw) (by simp only [List.getElem?_toArray, List.getElem?_cons_succ, List.getElem?_cons_zero]; rfl) (by kernel_rfl) (by kernel_rfl) (by kernel_rfl) (by intro _ _ _ h; exact h) (Or.inl ⟨by rfl, fun w hS => by go_simp⟩) hH ?_
  simp only [Act.put, List.setIfInBounds_toArray, List.set_cons_zero, List.set_cons_succ]
  refine wpAnyH_take (i := 10) (v := .int .i64 me) (by simp only [List.getElem?_toArray, List.getElem?_cons_succ, List.getElem?_cons_zero]; rfl) (by kernel_rfl) (by kernel_rfl) (by kernel_rfl) (by intro _ _ _ h; exact h) (Or.inl ⟨by rfl, fun w hS => by go_simp⟩) hH ?_
  simp only [Act.put, List.setIfInBounds_toArray, List.set_cons_zero, List.set_cons_succ]
  refine wpAnyH_take (i := 11) (v := .int .i64 target) (by simp only [List.getElem?_toArray, List.getElem?_cons_succ, List.getElem?_cons_zero]; rfl) (by kernel_rfl) (by kernel_rfl) (by kernel_rfl) (by intro _ _ _ h; exact h) (Or.inl ⟨by rfl, fun w hS => by go_simp⟩) hH ?_
  simp only [Act.put, List.setIfInBounds_toArray, List.set_cons_zero, List.set_cons_succ]
  refine wpAnyH_take (i := 12) (v := .int .i64 most) (by simp only [List.getElem?_toArray, List.getElem?_cons_succ, List.getElem?_cons_zero]; rfl) (by kernel_rfl) (by kernel_rfl) (by kernel_rfl) (by intro _ _ _ h; exact h) (Or.inl ⟨by rfl, fun w hS => by go_simp⟩) hH ?_
  simp only [Act.put, List.setIfInBounds_toArray, List.set_cons_zero, List.set_cons_succ]
  refine wpAnyH_ready (rs := [13]) (by kernel_rfl) (by simp) ?_
  refine AllReadyH.cons (by simp only [List.getElem?_toArray, List.getElem?_cons_succ, List.getElem?_cons_zero]; rfl) (fun K hK => ?_) AllReadyH.nil
  go_simp
  refine (SH.out _ _ (HW.out.below hH)).mono ?_
  rintro e x13 ⟨ua, rfl, hR, hM⟩
  obtain ⟨pa, ka, rfl, -, -, -⟩ := hR.parts
  clear hR
  refine hK.out _ _ (hH.trans (hM.mono hH.size)) (fun hH => ?_)
  clear hK K hM
  refine wpAnyH_take (i := 14) (v := .int .i64 hc) (by simp only [List.getElem?_toArray, List.getElem?_cons_succ, List.getElem?_cons_zero]; rfl) (by kernel_rfl) (by kernel_rfl) (by kernel_rfl) (by intro _ _ _ h; exact h) (Or.inl ⟨by rfl, fun w hS => by (have hf := fldT0 hc pa hh.length ka; go_simp)⟩) hH ?_
  simp only [Act.put, List.setIfInBounds_toArray, List.set_cons_zero, List.set_cons_succ]
  refine wpAnyH_take (i := 15) (v := .bool false) (by simp only [List.getElem?_toArray, List.getElem?_cons_succ, List.getElem?_cons_zero]; rfl) (by kernel_rfl) (by kernel_rfl) (by kernel_rfl) (by intro _ _ _ h; exact h) (Or.inl ⟨by rfl, fun w hS => by go_simp⟩) hH ?_
  simp only [Act.put, List.setIfInBounds_toArray, List.set_cons_zero, List.set_cons_succ]
  refine wpAnyH_take (i := 16) (v := .bool false) (by simp only [List.getElem?_toArray, List.getElem?_cons_succ, List.getElem?_cons_zero]; rfl) (by kernel_rfl) (by kernel_rfl) (by kernel_rfl) (by intro _ _ _ h; exact h) (Or.inl ⟨by rfl, fun w hS => by go_simp⟩) hH ?_
  simp only [Act.put, List.setIfInBounds_toArray, List.set_cons_zero, List.set_cons_succ]
  refine wpAnyH_take (i := 17) (v := .bool false) (by simp only [List.getElem?_toArray, List.getElem?_cons_succ, List.getElem?_cons_zero]; rfl) (by kernel_rfl) (by kernel_rfl) (by kernel_rfl) (by intro _ _ _ h; exact h) (Or.inl ⟨by rfl, fun w hS => by go_simp⟩) hH ?_
  simp only [Act.put, List.setIfInBounds_toArray, List.set_cons_zero, List.set_cons_succ]
  refine wpAnyH_take (i := 18) (v := .pointer (some ⟨gh, 1, none⟩)) (by simp only [List.getElem?_toArray, List.getElem?_cons_succ, List.getElem?_cons_zero]; rfl) (by kernel_rfl) (by kernel_rfl) (by kernel_rfl) (by intro _ _ _ h; exact h) (Or.inl ⟨by rfl, fun w hS => by go_simp⟩) hH ?_
  simp only [Act.put, List.setIfInBounds_toArray, List.set_cons_zero, List.set_cons_succ]
  refine wpAnyH_take (i := 19) (v := .slice ph hh.length kh) (by simp only [List.getElem?_toArray, List.getElem?_cons_succ, List.getElem?_cons_zero]; rfl) (by kernel_rfl) (by kernel_rfl) (by kernel_rfl) (by intro _ _ _ h; exact h) (Or.inl ⟨by rfl, fun w hS => by (have y0 := cell_kept hS h1; go_simp)⟩) hH ?_
  simp only [Act.put, List.setIfInBounds_toArray, List.set_cons_zero, List.set_cons_succ]
  refine wpAnyH_take (i := 20) (v := .slice pw ds.length cw) (by simp only [List.getElem?_toArray, List.getElem?_cons_succ, List.getElem?_cons_zero]; rfl) (by kernel_rfl) (by kernel_rfl) (by kernel_rfl) (by intro _ _ _ h; exact h) (Or.inl ⟨by rfl, fun w hS => by go_simp⟩) hH ?_
  simp only [Act.put, List.setIfInBounds_toArray, List.set_cons_zero, List.set_cons_succ]
  refine wpAnyH_take (i := 21) (v := .int .i64 me) (by simp only [List.getElem?_toArray, List.getElem?_cons_succ, List.getElem?_cons_zero]; rfl) (by kernel_rfl) (by kernel_rfl) (by kernel_rfl) (by intro _ _ _ h; exact h) (Or.inl ⟨by rfl, fun w hS => by go_simp⟩) hH ?_
  simp only [Act.put, List.setIfInBounds_toArray, List.set_cons_zero, List.set_cons_succ]
  refine wpAnyH_take (i := 22) (v := .int .i64 target) (by simp only [List.getElem?_toArray, List.getElem?_cons_succ, List.getElem?_cons_zero]; rfl) (by kernel_rfl) (by kernel_rfl) (by kernel_rfl) (by intro _ _ _ h; exact h) (Or.inl ⟨by rfl, fun w hS => by go_simp⟩) hH ?_
  simp only [Act.put, List.setIfInBounds_toArray, List.set_cons_zero, List.set_cons_succ]
  refine wpAnyH_take (i := 23) (v := .int .i64 most) (by simp only [List.getElem?_toArray, List.getElem?_cons_succ, List.getElem?_cons_zero]; rfl) (by kernel_rfl) (by kernel_rfl) (by kernel_rfl) (by intro _ _ _ h; exact h) (Or.inl ⟨by rfl, fun w hS => by go_simp⟩) hH ?_
  simp only [Act.put, List.setIfInBounds_toArray, List.set_cons_zero, List.set_cons_succ]
  refine wpAnyH_ready (rs := [24]) (by kernel_rfl) (by simp) ?_
  refine AllReadyH.cons (by simp only [List.getElem?_toArray, List.getElem?_cons_succ, List.getElem?_cons_zero]; rfl) (fun K hK => ?_) AllReadyH.nil
  go_simp
  refine (SH.out _ _ (HW.out.below hH)).mono ?_
  rintro e x24 ⟨ub, rfl, hR, hM⟩
  obtain ⟨pb, kb, rfl, -, -, -⟩ := hR.parts
  have RQ := hid hR
  clear hR
  refine hK.out _ _ (hH.trans (hM.mono hH.size)) (fun hH => ?_)
  clear hK K hM
  refine wpAnyH_take (i := 25) (v := .slice pb hh.length kb) (by simp only [List.getElem?_toArray, List.getElem?_cons_succ, List.getElem?_cons_zero]; rfl) (by kernel_rfl) (by kernel_rfl) (by kernel_rfl) (by intro _ _ _ h; exact h) (Or.inl ⟨by rfl, fun w hS => by (have hf := fldT1 hc pb hh.length kb; go_simp)⟩) hH ?_
  simp only [Act.put, List.setIfInBounds_toArray, List.set_cons_zero, List.set_cons_succ]
  refine wpAnyH_ready (rs := [26]) (by kernel_rfl) (by simp) ?_
  refine AllReadyH.cons (by simp only [List.getElem?_toArray, List.getElem?_cons_succ, List.getElem?_cons_zero]; rfl) (fun K hK => ?_) AllReadyH.nil
  go_simp
  refine (lwnu _ _ hh _ (HR.out.below hH) RQ.out HL.out).mono ?_
  rintro e x26 ⟨rfl, hM⟩
  refine hK.out _ _ (hH.trans (hM.mono hH.size)) (fun hH => ?_)
  clear hK K hM
  clear RQ
  refine wpAnyH_take (i := 27) (v := .bool false) (by simp only [List.getElem?_toArray, List.getElem?_cons_succ, List.getElem?_cons_zero]; rfl) (by kernel_rfl) (by kernel_rfl) (by kernel_rfl) (by intro _ _ _ h; exact h) (Or.inl ⟨by rfl, fun w hS => by go_simp⟩) hH ?_
  simp only [Act.put, List.setIfInBounds_toArray, List.set_cons_zero, List.set_cons_succ]
  refine wpAnyH_take (i := 28) (v := .bool false) (by simp only [List.getElem?_toArray, List.getElem?_cons_succ, List.getElem?_cons_zero]; rfl) (by kernel_rfl) (by kernel_rfl) (by kernel_rfl) (by intro _ _ _ h; exact h) (Or.inl ⟨by rfl, fun w hS => by go_simp⟩) hH ?_
  simp only [Act.put, List.setIfInBounds_toArray, List.set_cons_zero, List.set_cons_succ]
  refine wpAnyH_done (by kernel_rfl) ?_ _
  have hB := hH
  clear hH t0 t1 h0 h1
  replace HV := hid (HV.out.below hB)
  replace HW := hid (HW.out.below hB)
  replace HR := hid (HR.out.below hB)
  replace VT := hid (var_below hB VT.out)
  replace VH := hid (var_below hB VH.out)
  replace BB := hid (BB.out.trans (hB.mono BB.out.size))
  clear hB
  generalize x26 = w7 at *
  clear ST SH HW HR HL
  by_cases g0 : hc = 0
  case neg =>
    have nf : (hc == 0) = false := by simpa using g0
    obtain ⟨t0, t1, -, -⟩ := var2_facts VT.out
    obtain ⟨h0, h1, -, -⟩ := var2_facts VH.out
    clear HM g0
    clear VH
    by_cases k0 : t.1 = 0
    case neg =>
      have nz : (t.1 != 0) = true := by rw [bne_iff_ne]; exact k0
      obtain ⟨t0, t1, -, -⟩ := var2_facts VT.out
      go_wp2
      go_ret
      exact ⟨rfl, BB.out⟩
    obtain ⟨c4, n0, FR, FL⟩ := FT.out k0
    have nz : (t.1 != 0) = false := by simp [k0]
    obtain ⟨N, hN⟩ : ∃ N, N = (oN self cs).length := ⟨_, rfl⟩
    have FR := hid FR
    have FL := hid FL
    have NN := hid hN
    have N0 := hid n0
    have N4 := hid (Nat.le_trans (oN_len self cs) c4)
    clear n0 hN FT k0
    obtain ⟨t0, t1, -, -⟩ := var2_facts VT.out
    go_wp2_with fail
    clear t0 t1 nz VT
    go_loopw [12, 13] (fun n i wr => ∃ k m : Nat, k ≤ cs.length ∧ m ≤ k ∧ i = .int .i64 k ∧ n = .int .i64 m ∧ Hid (m = (oN self (cs.take k)).length) ∧ Hid (Below w7.heap.size w7 wr)) (fun _ i _ => cs.length - (intOf i).toNat)
    case atStart => exact ⟨0, 0, by omega, by omega, rfl, rfl, hid rfl, hid (Below.refl _ _)⟩
    case round =>
      obtain ⟨k, m, hk, hm, rfl, rfl, ME, BL⟩ := hrel
      by_cases hlt : k < cs.length
      · obtain ⟨a', cap', e, -, -, hcs⟩ := (HV.out.below BL.out).parts
        cases e
        obtain ⟨b, o, rfl, q1⟩ := hcs k hlt
        obtain ⟨c0, -, -, -⟩ := c_cells q1
        have I1 := idx_ci b o cs.length cv k hlt
        obtain ⟨e1, e2⟩ := oN_next (self := self) hlt
        replace e1 := hid e1
        replace e2 := hid e2
        obtain ⟨M, hM⟩ : ∃ M, M = cs[k] := ⟨_, rfl⟩
        rw [← hM] at c0 e1 e2
        clear q1 hcs hM
        by_cases qs : M.n = self
        · have nn : (M.n != self) = false := by simp [qs]
          have E := hid (e2.out qs)
          replace qs := hid qs
          clear e1 e2
          go_wp2
          go_roundw
          case rel => exact ⟨k + 1, m, hlt, by omega, by go_num, rfl, hid (by rw [E.out]; exact ME.out), BL⟩
          case measure => simp [intOf] <;> omega
        · have nn : (M.n != self) = true := by simp [qs]
          have E := hid (e1.out qs)
          replace qs := hid qs
          clear e1 e2
          go_wp2
          go_roundw
          case rel => exact ⟨k + 1, m + 1, hlt, by omega, by go_num, by go_num, hid (by rw [E.out, ME.out]), BL⟩
          case measure => simp [intOf] <;> omega
      · obtain rfl : k = cs.length := by omega
        rw [List.take_length, ← NN.out] at ME
        obtain rfl := ME.out
        clear ME hlt hk hm
        have hB := BL.out
        clear BL
        replace HV := hid (HV.out.below hB)
        replace BB := hid (BB.out.trans (hB.mono BB.out.size))
        clear hB
        have n4 : m ≤ 4 := by have := N4.out; rw [← NN.out] at this; exact this
        obtain ⟨ns, hns⟩ : ∃ ns, ns = oN self cs := ⟨_, rfl⟩
        rw [← hns] at FR FL NN N0
        rw [← NN.out] at FR FL N0
        clear hns N4
        have O0 := hid (owZ_litH (base := wr.heap.size) (heap_alloc_new wr (.cells #[] 2)) (Nat.le_refl _))
        have B0 := hid (below_alloc1 wr (.cells #[] 2))
        go_wp2_with fail
        generalize hw8 : wr.alloc (.cells #[] 2) = w8 at *
        obtain ⟨w7b, rfl⟩ : ∃ z, z = wr := ⟨_, rfl⟩
        go_loopw [14, 15, 16] (fun sv now i wr => ∃ k : Nat, ∃ u : Value, k ≤ m ∧ i = .int .i64 k ∧ sv = u ∧ now = .int .i64 (itL ns last k) ∧ Hid (OwZ wr w7b.heap.size u (seenL ns last k)) ∧ Hid (Below w7b.heap.size w7b wr)) (fun _ _ i _ => m - (intOf i).toNat)
        case atStart => exact ⟨0, _, by omega, rfl, rfl, rfl, O0, B0⟩
        case round =>
          obtain ⟨k, u, hk, rfl, rfl, rfl, OO, BL⟩ := hrel
          clear O0 B0
          have RV := hid (HV.out.below BL.out)
          obtain ⟨px, cx, rfl, -, -, -⟩ := OO.out.rd.parts
          by_cases hlt : k < m
          · obtain ⟨e1, e2, e3, e4⟩ := FR.out k hlt
            have ES := hid (seen_succ ns last k)
            have LS := hid (seen_len ns last k)
            obtain ⟨X, hX⟩ : ∃ X, X = itL ns last (k + 1) := ⟨_, rfl⟩
            obtain ⟨Y, hY⟩ : ∃ Y, Y = itL ns last k := ⟨_, rfl⟩
            obtain ⟨sl, hsl⟩ : ∃ s, s = seenL ns last k := ⟨_, rfl⟩
            have EQ := hid (show ∀ j (hj : j < sl.length), (sl[j] == X) = false by subst hsl; subst hX; exact seen_ne e4)
            rw [← hX] at e1 e2 e3 ES
            rw [← hY] at e1 ⊢
            rw [← hsl] at OO ES LS ⊢
            have E1 := hid e1
            have E3 := hid e3
            have x2 : (X == self) = false := by simp [e2]
            have HX := hid hX
            clear hX hY hsl e1 e2 e3 e4
            go_wp2_with fail
            refine (int _ cs self Y _ RV.out).mono ?_
            rintro e w9 ⟨rfl, hB⟩
            rw [E1.out]
            replace RV := hid (RV.out.below hB)
            replace OO := hid (OO.out.below hB)
            replace BL := hid (BL.out.trans (hB.mono BL.out.size))
            clear hB
            have VX := hid (heap_alloc_new w9 (.cells #[.int .i64 0, .int .i64 X] 28))
            have hA := below_alloc1 w9 (.cells #[.int .i64 0, .int .i64 X] 28)
            replace RV := hid (RV.out.below hA)
            have OL := OO
            replace OO := hid (OO.out.below hA)
            replace BL := hid (BL.out.trans (hA.mono BL.out.size))
            clear hA
            obtain ⟨z0, z1, -, -⟩ := var2_facts VX.out
            go_wp2_with fail
            clear z0 z1
            generalize w9.alloc (.cells #[.int .i64 0, .int .i64 X] 28) = w10 at *
            obtain ⟨gx, hg⟩ : ∃ g, g = w9.heap.size := ⟨_, rfl⟩
            rw [← hg] at VX ⊢
            have NX := hid (show ∀ b, (Value.slice px sl.length cx).ownBlock = some b → b ≠ gx from fun b e => by have := (OL.out.lt b e).2; omega)
            clear hg OL
            refine (ifc _ cs X _ RV.out).mono ?_
            rintro e w11 ⟨uf, rfl, hO, hB⟩
            rw [E3.out]
            obtain ⟨pf, kf, rfl, -, -, -⟩ := hO.rd.parts
            replace RV := hid (RV.out.below hB)
            replace OO := hid (OO.out.below hB)
            replace VX := hid (var_below hB VX.out)
            replace BL := hid (BL.out.trans (hB.mono BL.out.size))
            clear hB hO
            obtain ⟨z0, z1, -, -⟩ := var2_facts VX.out
            have hfv := fldTV0 0 pf (fcL cs X).length kf
            go_wp2_with fail
            clear z0 z1 hfv
            go_loopw [18] (fun j ws => ∃ r : Nat, r ≤ sl.length ∧ j = .int .i64 r ∧ Hid (Below w11.heap.size w11 ws)) (fun j _ => sl.length - (intOf j).toNat)
            case atStart => exact ⟨0, by omega, rfl, hid (Below.refl _ _)⟩
            case round =>
              obtain ⟨r, hr, rfl, BI⟩ := hrel
              have l4 : sl.length ≤ 4 := by have := LS.out; omega
              have VY := hid (var_below BI.out VX.out)
              obtain ⟨z0, z1, -, -⟩ := var2_facts VY.out
              by_cases hrt : r < sl.length
              · obtain ⟨a2, c2, e, -, -, hcz⟩ := (OO.out.below BI.out).rd.parts
                cases e
                obtain ⟨bz, oz, rfl, cz⟩ := hcz r hrt
                have nq := EQ.out r hrt
                obtain ⟨Z, hZ⟩ : ∃ Z, Z = sl[r] := ⟨_, rfl⟩
                rw [← hZ] at cz nq
                clear hcz hZ
                go_wp2
                go_quiet (fail)
                go_wp2
                go_roundw
                case rel => exact ⟨r + 1, hrt, by go_num, hid (below_drewN BI.out _)⟩
                case measure => simp [intOf] <;> omega
              · obtain rfl : r = sl.length := by omega
                clear hrt hr VX z0 z1
                replace OO := hid (OO.out.below BI.out)
                replace BL := hid (BL.out.trans (BI.out.mono BL.out.size))
                obtain ⟨w12, hw12⟩ : ∃ z, z = wr := ⟨_, rfl⟩
                clear BI
                obtain ⟨z0, z1, -, -⟩ := var2_facts VY.out
                have LX := hid (var_lt VY.out)
                have B1 := hid (below_alloc1 wr (.cells #[.int .i64 X] 2))
                have RN := hid (rdZ_one wr X 2)
                have LA := hid (show sl.length + [X].length ≤ 4194304 by have := LS.out; simp; omega)
                have O2 := hid (OO.out.below B1.out)
                have S2 := hid (show w7b.heap.size ≤ (wr.alloc (.cells #[.int .i64 X] 2)).heap.size by have := BL.out.size; simp; omega)
                have B2 := hid (BL.out.trans (B1.out.mono BL.out.size))
                have VZ := hid (var_below B1.out VY.out)
                go_wp2_with (at_builtin; refine list_appZ rfl _ _ rfl _ _ sl [X] w7b.heap.size rfl rfl O2.out RN.out LA.out S2.out ?_; intro v3 w3 hO hG; rw [← ES.out] at hO; obtain ⟨pq, cq, rfl, -, -, -⟩ := hO.rd.parts; have vz := var_grown hG VZ.out (fun e => NX.out _ e.symm rfl); obtain ⟨z2, z3, -, -⟩ := var2_facts vz)
                have B3 := hid (B2.out.grown hG S2.out (O2.out.row (Nat.le_refl _)))
                have O3 := hid hO
                rw [HX.out]
                clear hO hG O2 S2 B2 RN z0 z1 z2 z3 VZ VY vz
                go_roundw
                case rel => exact ⟨k + 1, _, hlt, by go_num, rfl, rfl, O3, B3⟩
                case measure => simp [intOf] <;> omega
          · obtain rfl : k = m := by omega
            replace FL := hid FL.out
            have hn0 : 0 < k := by have := N0.out; omega
            have LS := hid (seen_len ns last k)
            obtain ⟨X, hX⟩ : ∃ X, X = itL ns last 1 := ⟨_, rfl⟩
            obtain ⟨Y, hY⟩ : ∃ Y, Y = itL ns last k := ⟨_, rfl⟩
            obtain ⟨sl, hsl⟩ : ∃ s, s = seenL ns last k := ⟨_, rfl⟩
            rw [← hY, ← hX] at FL
            rw [← hY]
            have SX := hid (show ∀ hj : 0 < sl.length, sl[0] = X by subst hsl; subst hX; exact fun hj => seen_at ns last k 0 hj)
            rw [← hsl] at OO LS ⊢
            clear hX hY hsl
            obtain ⟨p2, c2, e, -, -, hcz⟩ := OO.out.rd.parts
            cases e
            have l0 : 0 < sl.length := by have := N0.out; have := LS.out; omega
            obtain ⟨bz, oz, rfl, cz⟩ := hcz 0 l0
            rw [SX.out l0] at cz
            simp only [Nat.add_zero] at cz
            clear hcz hlt hk
            have BW := hid (BB.out.trans (BL.out.mono BB.out.size))
            obtain ⟨w9, hw9⟩ : ∃ z, z = wr := ⟨_, rfl⟩
            clear hw9
            go_wp2
            refine wp_region_held_drew (S := fun w' => Below wr.heap.size wr w') (by kernel_rfl) (Below.refl _ _).drew (fun hH => ?_)
            generalize wr.drew = y0 at hH ⊢
            refine wpAnyH_take (i := 0) (v := .int .i64 k) (by simp only [List.getElem?_toArray, List.getElem?_cons_zero]; rfl) (by kernel_rfl) (by kernel_rfl) (by kernel_rfl) (by intro _ _ _ h; exact h) (Or.inl ⟨by rfl, fun w hS => by go_simp⟩) hH ?_
            simp only [Act.put, List.setIfInBounds_toArray, List.set_cons_zero, List.set_cons_succ]
            refine wpAnyH_take (i := 1) (v := .bool true) (by simp only [List.getElem?_toArray, List.getElem?_cons_succ, List.getElem?_cons_zero]; rfl) (by kernel_rfl) (by kernel_rfl) (by kernel_rfl) (by intro _ _ _ h; exact h) (Or.inl ⟨by rfl, fun w hS => by go_simp⟩) hH ?_
            simp only [Act.put, List.setIfInBounds_toArray, List.set_cons_zero, List.set_cons_succ]
            refine wpAnyH_take (i := 2) (v := .bool true) (by simp only [List.getElem?_toArray, List.getElem?_cons_succ, List.getElem?_cons_zero]; rfl) (by kernel_rfl) (by kernel_rfl) (by kernel_rfl) (by intro _ _ _ h; exact h) (Or.inl ⟨by rfl, fun w hS => by go_simp⟩) hH ?_
            simp only [Act.put, List.setIfInBounds_toArray, List.set_cons_zero, List.set_cons_succ]
            refine wpAnyH_take (i := 3) (v := .slice pv cs.length cv) (by simp only [List.getElem?_toArray, List.getElem?_cons_succ, List.getElem?_cons_zero]; rfl) (by kernel_rfl) (by kernel_rfl) (by kernel_rfl) (by intro _ _ _ h; exact h) (Or.inl ⟨by rfl, fun w hS => by go_simp⟩) hH ?_
            simp only [Act.put, List.setIfInBounds_toArray, List.set_cons_zero, List.set_cons_succ]
            refine wpAnyH_take (i := 4) (v := .int .i64 self) (by simp only [List.getElem?_toArray, List.getElem?_cons_succ, List.getElem?_cons_zero]; rfl) (by kernel_rfl) (by kernel_rfl) (by kernel_rfl) (by intro _ _ _ h; exact h) (Or.inl ⟨by rfl, fun w hS => by go_simp⟩) hH ?_
            simp only [Act.put, List.setIfInBounds_toArray, List.set_cons_zero, List.set_cons_succ]
            refine wpAnyH_take (i := 5) (v := .int .i64 Y) (by simp only [List.getElem?_toArray, List.getElem?_cons_succ, List.getElem?_cons_zero]; rfl) (by kernel_rfl) (by kernel_rfl) (by kernel_rfl) (by intro _ _ _ h; exact h) (Or.inl ⟨by rfl, fun w hS => by go_simp⟩) hH ?_
            simp only [Act.put, List.setIfInBounds_toArray, List.set_cons_zero, List.set_cons_succ]
            refine wpAnyH_take (i := 8) (v := .slice (some ⟨bz, oz, none⟩) sl.length cx) (by simp only [List.getElem?_toArray, List.getElem?_cons_succ, List.getElem?_cons_zero]; rfl) (by kernel_rfl) (by kernel_rfl) (by kernel_rfl) (by intro _ _ _ h; exact h) (Or.inl ⟨by rfl, fun w hS => by go_simp⟩) hH ?_
            simp only [Act.put, List.setIfInBounds_toArray, List.set_cons_zero, List.set_cons_succ]
            refine wpAnyH_take (i := 9) (v := .pointer (some ⟨bz, oz, none⟩)) (by simp only [List.getElem?_toArray, List.getElem?_cons_succ, List.getElem?_cons_zero]; rfl) (by kernel_rfl) (by kernel_rfl) (by kernel_rfl) (by intro _ _ _ h; exact h) (Or.inl ⟨by rfl, fun w hS => by go_simp⟩) hH ?_
            simp only [Act.put, List.setIfInBounds_toArray, List.set_cons_zero, List.set_cons_succ]
            refine wpAnyH_take (i := 10) (v := .int .i64 X) (by simp only [List.getElem?_toArray, List.getElem?_cons_succ, List.getElem?_cons_zero]; rfl) (by kernel_rfl) (by kernel_rfl) (by kernel_rfl) (by intro _ _ _ h; exact h) (Or.inl ⟨by rfl, fun w hS => by (have y0 := cell_kept hS cz; go_simp)⟩) hH ?_
            simp only [Act.put, List.setIfInBounds_toArray, List.set_cons_zero, List.set_cons_succ]
            refine wpAnyH_ready (rs := [6]) (by kernel_rfl) (by simp) ?_
            refine AllReadyH.cons (by simp only [List.getElem?_toArray, List.getElem?_cons_succ, List.getElem?_cons_zero]; rfl) (fun K hK => ?_) AllReadyH.nil
            go_simp
            refine (int _ cs self Y _ (RV.out.below hH)).mono ?_
            rintro e x6 ⟨rfl, hM⟩
            rw [FL.out]
            refine hK.out _ _ (hH.trans (hM.mono hH.size)) (fun hH => ?_)
            clear hK K hM
            refine wpAnyH_take (i := 7) (v := .int .i64 X) (by simp only [List.getElem?_toArray, List.getElem?_cons_succ, List.getElem?_cons_zero]; rfl) (by kernel_rfl) (by kernel_rfl) (by kernel_rfl) (by intro _ _ _ h; exact h) (Or.inl ⟨by rfl, fun w hS => by (have hf := fldR1 0 X; go_simp)⟩) hH ?_
            simp only [Act.put, List.setIfInBounds_toArray, List.set_cons_zero, List.set_cons_succ]
            refine wpAnyH_take (i := 11) (v := .bool true) (by simp only [List.getElem?_toArray, List.getElem?_cons_succ, List.getElem?_cons_zero]; rfl) (by kernel_rfl) (by kernel_rfl) (by kernel_rfl) (by intro _ _ _ h; exact h) (Or.inl ⟨by rfl, fun w hS => by go_simp⟩) hH ?_
            simp only [Act.put, List.setIfInBounds_toArray, List.set_cons_zero, List.set_cons_succ]
            refine wpAnyH_take (i := 12) (v := .bool true) (by simp only [List.getElem?_toArray, List.getElem?_cons_succ, List.getElem?_cons_zero]; rfl) (by kernel_rfl) (by kernel_rfl) (by kernel_rfl) (by intro _ _ _ h; exact h) (Or.inl ⟨by rfl, fun w hS => by go_simp⟩) hH ?_
            simp only [Act.put, List.setIfInBounds_toArray, List.set_cons_zero, List.set_cons_succ]
            refine wpAnyH_take (i := 13) (v := .bool true) (by simp only [List.getElem?_toArray, List.getElem?_cons_succ, List.getElem?_cons_zero]; rfl) (by kernel_rfl) (by kernel_rfl) (by kernel_rfl) (by intro _ _ _ h; exact h) (Or.inl ⟨by rfl, fun w hS => by go_simp⟩) hH ?_
            simp only [Act.put, List.setIfInBounds_toArray, List.set_cons_zero, List.set_cons_succ]
            refine wpAnyH_done (by kernel_rfl) ?_ _
            have hB := hH
            clear hH
            go_wp2
            go_ret
            exact ⟨rfl, BW.out.trans (hB.mono BW.out.size)⟩
  have gm := HM.out g0
  have nf : ((hh.length : Int) > most) = False := by simp; omega
  subst g0
  clear HM gm
  obtain ⟨t0, t1, -, -⟩ := var2_facts VT.out
  obtain ⟨h0, h1, -, -⟩ := var2_facts VH.out
  clear VH
  by_cases k0 : t.1 = 0
  case neg =>
    have nz : (t.1 != 0) = true := by rw [bne_iff_ne]; exact k0
    obtain ⟨t0, t1, -, -⟩ := var2_facts VT.out
    go_wp2
    go_ret
    exact ⟨rfl, BB.out⟩
  obtain ⟨c4, n0, FR, FL⟩ := FT.out k0
  have nz : (t.1 != 0) = false := by simp [k0]
  obtain ⟨N, hN⟩ : ∃ N, N = (oN self cs).length := ⟨_, rfl⟩
  have FR := hid FR
  have FL := hid FL
  have NN := hid hN
  have N0 := hid n0
  have N4 := hid (Nat.le_trans (oN_len self cs) c4)
  clear n0 hN FT k0
  obtain ⟨t0, t1, -, -⟩ := var2_facts VT.out
  go_wp2_with fail
  clear t0 t1 nz VT
  go_loopw [12, 13] (fun n i wr => ∃ k m : Nat, k ≤ cs.length ∧ m ≤ k ∧ i = .int .i64 k ∧ n = .int .i64 m ∧ Hid (m = (oN self (cs.take k)).length) ∧ Hid (Below w7.heap.size w7 wr)) (fun _ i _ => cs.length - (intOf i).toNat)
  case atStart => exact ⟨0, 0, by omega, by omega, rfl, rfl, hid rfl, hid (Below.refl _ _)⟩
  case round =>
    obtain ⟨k, m, hk, hm, rfl, rfl, ME, BL⟩ := hrel
    by_cases hlt : k < cs.length
    · obtain ⟨a', cap', e, -, -, hcs⟩ := (HV.out.below BL.out).parts
      cases e
      obtain ⟨b, o, rfl, q1⟩ := hcs k hlt
      obtain ⟨c0, -, -, -⟩ := c_cells q1
      have I1 := idx_ci b o cs.length cv k hlt
      obtain ⟨e1, e2⟩ := oN_next (self := self) hlt
      replace e1 := hid e1
      replace e2 := hid e2
      obtain ⟨M, hM⟩ : ∃ M, M = cs[k] := ⟨_, rfl⟩
      rw [← hM] at c0 e1 e2
      clear q1 hcs hM
      by_cases qs : M.n = self
      · have nn : (M.n != self) = false := by simp [qs]
        have E := hid (e2.out qs)
        replace qs := hid qs
        clear e1 e2
        go_wp2
        go_roundw
        case rel => exact ⟨k + 1, m, hlt, by omega, by go_num, rfl, hid (by rw [E.out]; exact ME.out), BL⟩
        case measure => simp [intOf] <;> omega
      · have nn : (M.n != self) = true := by simp [qs]
        have E := hid (e1.out qs)
        replace qs := hid qs
        clear e1 e2
        go_wp2
        go_roundw
        case rel => exact ⟨k + 1, m + 1, hlt, by omega, by go_num, by go_num, hid (by rw [E.out, ME.out]), BL⟩
        case measure => simp [intOf] <;> omega
    · obtain rfl : k = cs.length := by omega
      rw [List.take_length, ← NN.out] at ME
      obtain rfl := ME.out
      clear ME hlt hk hm
      have hB := BL.out
      clear BL
      replace HV := hid (HV.out.below hB)
      replace BB := hid (BB.out.trans (hB.mono BB.out.size))
      clear hB
      have n4 : m ≤ 4 := by have := N4.out; rw [← NN.out] at this; exact this
      obtain ⟨ns, hns⟩ : ∃ ns, ns = oN self cs := ⟨_, rfl⟩
      rw [← hns] at FR FL NN N0
      rw [← NN.out] at FR FL N0
      clear hns N4
      have O0 := hid (owZ_litH (base := wr.heap.size) (heap_alloc_new wr (.cells #[] 2)) (Nat.le_refl _))
      have B0 := hid (below_alloc1 wr (.cells #[] 2))
      go_wp2_with fail
      generalize hw8 : wr.alloc (.cells #[] 2) = w8 at *
      obtain ⟨w7b, rfl⟩ : ∃ z, z = wr := ⟨_, rfl⟩
      go_loopw [14, 15, 16] (fun sv now i wr => ∃ k : Nat, ∃ u : Value, k ≤ m ∧ i = .int .i64 k ∧ sv = u ∧ now = .int .i64 (itL ns last k) ∧ Hid (OwZ wr w7b.heap.size u (seenL ns last k)) ∧ Hid (Below w7b.heap.size w7b wr)) (fun _ _ i _ => m - (intOf i).toNat)
      case atStart => exact ⟨0, _, by omega, rfl, rfl, rfl, O0, B0⟩
      case round =>
        obtain ⟨k, u, hk, rfl, rfl, rfl, OO, BL⟩ := hrel
        clear O0 B0
        have RV := hid (HV.out.below BL.out)
        obtain ⟨px, cx, rfl, -, -, -⟩ := OO.out.rd.parts
        by_cases hlt : k < m
        · obtain ⟨e1, e2, e3, e4⟩ := FR.out k hlt
          have ES := hid (seen_succ ns last k)
          have LS := hid (seen_len ns last k)
          obtain ⟨X, hX⟩ : ∃ X, X = itL ns last (k + 1) := ⟨_, rfl⟩
          obtain ⟨Y, hY⟩ : ∃ Y, Y = itL ns last k := ⟨_, rfl⟩
          obtain ⟨sl, hsl⟩ : ∃ s, s = seenL ns last k := ⟨_, rfl⟩
          have EQ := hid (show ∀ j (hj : j < sl.length), (sl[j] == X) = false by subst hsl; subst hX; exact seen_ne e4)
          rw [← hX] at e1 e2 e3 ES
          rw [← hY] at e1 ⊢
          rw [← hsl] at OO ES LS ⊢
          have E1 := hid e1
          have E3 := hid e3
          have x2 : (X == self) = false := by simp [e2]
          have HX := hid hX
          clear hX hY hsl e1 e2 e3 e4
          go_wp2_with fail
          refine (int _ cs self Y _ RV.out).mono ?_
          rintro e w9 ⟨rfl, hB⟩
          rw [E1.out]
          replace RV := hid (RV.out.below hB)
          replace OO := hid (OO.out.below hB)
          replace BL := hid (BL.out.trans (hB.mono BL.out.size))
          clear hB
          have VX := hid (heap_alloc_new w9 (.cells #[.int .i64 0, .int .i64 X] 28))
          have hA := below_alloc1 w9 (.cells #[.int .i64 0, .int .i64 X] 28)
          replace RV := hid (RV.out.below hA)
          have OL := OO
          replace OO := hid (OO.out.below hA)
          replace BL := hid (BL.out.trans (hA.mono BL.out.size))
          clear hA
          obtain ⟨z0, z1, -, -⟩ := var2_facts VX.out
          go_wp2_with fail
          clear z0 z1
          generalize w9.alloc (.cells #[.int .i64 0, .int .i64 X] 28) = w10 at *
          obtain ⟨gx, hg⟩ : ∃ g, g = w9.heap.size := ⟨_, rfl⟩
          rw [← hg] at VX ⊢
          have NX := hid (show ∀ b, (Value.slice px sl.length cx).ownBlock = some b → b ≠ gx from fun b e => by have := (OL.out.lt b e).2; omega)
          clear hg OL
          refine (ifc _ cs X _ RV.out).mono ?_
          rintro e w11 ⟨uf, rfl, hO, hB⟩
          rw [E3.out]
          obtain ⟨pf, kf, rfl, -, -, -⟩ := hO.rd.parts
          replace RV := hid (RV.out.below hB)
          replace OO := hid (OO.out.below hB)
          replace VX := hid (var_below hB VX.out)
          replace BL := hid (BL.out.trans (hB.mono BL.out.size))
          clear hB hO
          obtain ⟨z0, z1, -, -⟩ := var2_facts VX.out
          have hfv := fldTV0 0 pf (fcL cs X).length kf
          go_wp2_with fail
          clear z0 z1 hfv
          go_loopw [18] (fun j ws => ∃ r : Nat, r ≤ sl.length ∧ j = .int .i64 r ∧ Hid (Below w11.heap.size w11 ws)) (fun j _ => sl.length - (intOf j).toNat)
          case atStart => exact ⟨0, by omega, rfl, hid (Below.refl _ _)⟩
          case round =>
            obtain ⟨r, hr, rfl, BI⟩ := hrel
            have l4 : sl.length ≤ 4 := by have := LS.out; omega
            have VY := hid (var_below BI.out VX.out)
            obtain ⟨z0, z1, -, -⟩ := var2_facts VY.out
            by_cases hrt : r < sl.length
            · obtain ⟨a2, c2, e, -, -, hcz⟩ := (OO.out.below BI.out).rd.parts
              cases e
              obtain ⟨bz, oz, rfl, cz⟩ := hcz r hrt
              have nq := EQ.out r hrt
              obtain ⟨Z, hZ⟩ : ∃ Z, Z = sl[r] := ⟨_, rfl⟩
              rw [← hZ] at cz nq
              clear hcz hZ
              go_wp2
              go_quiet (fail)
              go_wp2
              go_roundw
              case rel => exact ⟨r + 1, hrt, by go_num, hid (below_drewN BI.out _)⟩
              case measure => simp [intOf] <;> omega
            · obtain rfl : r = sl.length := by omega
              clear hrt hr VX z0 z1
              replace OO := hid (OO.out.below BI.out)
              replace BL := hid (BL.out.trans (BI.out.mono BL.out.size))
              obtain ⟨w12, hw12⟩ : ∃ z, z = wr := ⟨_, rfl⟩
              clear BI
              obtain ⟨z0, z1, -, -⟩ := var2_facts VY.out
              have LX := hid (var_lt VY.out)
              have B1 := hid (below_alloc1 wr (.cells #[.int .i64 X] 2))
              have RN := hid (rdZ_one wr X 2)
              have LA := hid (show sl.length + [X].length ≤ 4194304 by have := LS.out; simp; omega)
              have O2 := hid (OO.out.below B1.out)
              have S2 := hid (show w7b.heap.size ≤ (wr.alloc (.cells #[.int .i64 X] 2)).heap.size by have := BL.out.size; simp; omega)
              have B2 := hid (BL.out.trans (B1.out.mono BL.out.size))
              have VZ := hid (var_below B1.out VY.out)
              go_wp2_with (at_builtin; refine list_appZ rfl _ _ rfl _ _ sl [X] w7b.heap.size rfl rfl O2.out RN.out LA.out S2.out ?_; intro v3 w3 hO hG; rw [← ES.out] at hO; obtain ⟨pq, cq, rfl, -, -, -⟩ := hO.rd.parts; have vz := var_grown hG VZ.out (fun e => NX.out _ e.symm rfl); obtain ⟨z2, z3, -, -⟩ := var2_facts vz)
              have B3 := hid (B2.out.grown hG S2.out (O2.out.row (Nat.le_refl _)))
              have O3 := hid hO
              rw [HX.out]
              clear hO hG O2 S2 B2 RN z0 z1 z2 z3 VZ VY vz
              go_roundw
              case rel => exact ⟨k + 1, _, hlt, by go_num, rfl, rfl, O3, B3⟩
              case measure => simp [intOf] <;> omega
        · obtain rfl : k = m := by omega
          replace FL := hid FL.out
          have hn0 : 0 < k := by have := N0.out; omega
          have LS := hid (seen_len ns last k)
          obtain ⟨X, hX⟩ : ∃ X, X = itL ns last 1 := ⟨_, rfl⟩
          obtain ⟨Y, hY⟩ : ∃ Y, Y = itL ns last k := ⟨_, rfl⟩
          obtain ⟨sl, hsl⟩ : ∃ s, s = seenL ns last k := ⟨_, rfl⟩
          rw [← hY, ← hX] at FL
          rw [← hY]
          have SX := hid (show ∀ hj : 0 < sl.length, sl[0] = X by subst hsl; subst hX; exact fun hj => seen_at ns last k 0 hj)
          rw [← hsl] at OO LS ⊢
          clear hX hY hsl
          obtain ⟨p2, c2, e, -, -, hcz⟩ := OO.out.rd.parts
          cases e
          have l0 : 0 < sl.length := by have := N0.out; have := LS.out; omega
          obtain ⟨bz, oz, rfl, cz⟩ := hcz 0 l0
          rw [SX.out l0] at cz
          simp only [Nat.add_zero] at cz
          clear hcz hlt hk
          have BW := hid (BB.out.trans (BL.out.mono BB.out.size))
          obtain ⟨w9, hw9⟩ : ∃ z, z = wr := ⟨_, rfl⟩
          clear hw9
          go_wp2
          refine wp_region_held_drew (S := fun w' => Below wr.heap.size wr w') (by kernel_rfl) (Below.refl _ _).drew (fun hH => ?_)
          generalize wr.drew = y0 at hH ⊢
          refine wpAnyH_take (i := 0) (v := .int .i64 k) (by simp only [List.getElem?_toArray, List.getElem?_cons_zero]; rfl) (by kernel_rfl) (by kernel_rfl) (by kernel_rfl) (by intro _ _ _ h; exact h) (Or.inl ⟨by rfl, fun w hS => by go_simp⟩) hH ?_
          simp only [Act.put, List.setIfInBounds_toArray, List.set_cons_zero, List.set_cons_succ]
          refine wpAnyH_take (i := 1) (v := .bool true) (by simp only [List.getElem?_toArray, List.getElem?_cons_succ, List.getElem?_cons_zero]; rfl) (by kernel_rfl) (by kernel_rfl) (by kernel_rfl) (by intro _ _ _ h; exact h) (Or.inl ⟨by rfl, fun w hS => by go_simp⟩) hH ?_
          simp only [Act.put, List.setIfInBounds_toArray, List.set_cons_zero, List.set_cons_succ]
          refine wpAnyH_take (i := 2) (v := .bool true) (by simp only [List.getElem?_toArray, List.getElem?_cons_succ, List.getElem?_cons_zero]; rfl) (by kernel_rfl) (by kernel_rfl) (by kernel_rfl) (by intro _ _ _ h; exact h) (Or.inl ⟨by rfl, fun w hS => by go_simp⟩) hH ?_
          simp only [Act.put, List.setIfInBounds_toArray, List.set_cons_zero, List.set_cons_succ]
          refine wpAnyH_take (i := 3) (v := .slice pv cs.length cv) (by simp only [List.getElem?_toArray, List.getElem?_cons_succ, List.getElem?_cons_zero]; rfl) (by kernel_rfl) (by kernel_rfl) (by kernel_rfl) (by intro _ _ _ h; exact h) (Or.inl ⟨by rfl, fun w hS => by go_simp⟩) hH ?_
          simp only [Act.put, List.setIfInBounds_toArray, List.set_cons_zero, List.set_cons_succ]
          refine wpAnyH_take (i := 4) (v := .int .i64 self) (by simp only [List.getElem?_toArray, List.getElem?_cons_succ, List.getElem?_cons_zero]; rfl) (by kernel_rfl) (by kernel_rfl) (by kernel_rfl) (by intro _ _ _ h; exact h) (Or.inl ⟨by rfl, fun w hS => by go_simp⟩) hH ?_
          simp only [Act.put, List.setIfInBounds_toArray, List.set_cons_zero, List.set_cons_succ]
          refine wpAnyH_take (i := 5) (v := .int .i64 Y) (by simp only [List.getElem?_toArray, List.getElem?_cons_succ, List.getElem?_cons_zero]; rfl) (by kernel_rfl) (by kernel_rfl) (by kernel_rfl) (by intro _ _ _ h; exact h) (Or.inl ⟨by rfl, fun w hS => by go_simp⟩) hH ?_
          simp only [Act.put, List.setIfInBounds_toArray, List.set_cons_zero, List.set_cons_succ]
          refine wpAnyH_take (i := 8) (v := .slice (some ⟨bz, oz, none⟩) sl.length cx) (by simp only [List.getElem?_toArray, List.getElem?_cons_succ, List.getElem?_cons_zero]; rfl) (by kernel_rfl) (by kernel_rfl) (by kernel_rfl) (by intro _ _ _ h; exact h) (Or.inl ⟨by rfl, fun w hS => by go_simp⟩) hH ?_
          simp only [Act.put, List.setIfInBounds_toArray, List.set_cons_zero, List.set_cons_succ]
          refine wpAnyH_take (i := 9) (v := .pointer (some ⟨bz, oz, none⟩)) (by simp only [List.getElem?_toArray, List.getElem?_cons_succ, List.getElem?_cons_zero]; rfl) (by kernel_rfl) (by kernel_rfl) (by kernel_rfl) (by intro _ _ _ h; exact h) (Or.inl ⟨by rfl, fun w hS => by go_simp⟩) hH ?_
          simp only [Act.put, List.setIfInBounds_toArray, List.set_cons_zero, List.set_cons_succ]
          refine wpAnyH_take (i := 10) (v := .int .i64 X) (by simp only [List.getElem?_toArray, List.getElem?_cons_succ, List.getElem?_cons_zero]; rfl) (by kernel_rfl) (by kernel_rfl) (by kernel_rfl) (by intro _ _ _ h; exact h) (Or.inl ⟨by rfl, fun w hS => by (have y0 := cell_kept hS cz; go_simp)⟩) hH ?_
          simp only [Act.put, List.setIfInBounds_toArray, List.set_cons_zero, List.set_cons_succ]
          refine wpAnyH_ready (rs := [6]) (by kernel_rfl) (by simp) ?_
          refine AllReadyH.cons (by simp only [List.getElem?_toArray, List.getElem?_cons_succ, List.getElem?_cons_zero]; rfl) (fun K hK => ?_) AllReadyH.nil
          go_simp
          refine (int _ cs self Y _ (RV.out.below hH)).mono ?_
          rintro e x6 ⟨rfl, hM⟩
          rw [FL.out]
          refine hK.out _ _ (hH.trans (hM.mono hH.size)) (fun hH => ?_)
          clear hK K hM
          refine wpAnyH_take (i := 7) (v := .int .i64 X) (by simp only [List.getElem?_toArray, List.getElem?_cons_succ, List.getElem?_cons_zero]; rfl) (by kernel_rfl) (by kernel_rfl) (by kernel_rfl) (by intro _ _ _ h; exact h) (Or.inl ⟨by rfl, fun w hS => by (have hf := fldR1 0 X; go_simp)⟩) hH ?_
          simp only [Act.put, List.setIfInBounds_toArray, List.set_cons_zero, List.set_cons_succ]
          refine wpAnyH_take (i := 11) (v := .bool true) (by simp only [List.getElem?_toArray, List.getElem?_cons_succ, List.getElem?_cons_zero]; rfl) (by kernel_rfl) (by kernel_rfl) (by kernel_rfl) (by intro _ _ _ h; exact h) (Or.inl ⟨by rfl, fun w hS => by go_simp⟩) hH ?_
          simp only [Act.put, List.setIfInBounds_toArray, List.set_cons_zero, List.set_cons_succ]
          refine wpAnyH_take (i := 12) (v := .bool true) (by simp only [List.getElem?_toArray, List.getElem?_cons_succ, List.getElem?_cons_zero]; rfl) (by kernel_rfl) (by kernel_rfl) (by kernel_rfl) (by intro _ _ _ h; exact h) (Or.inl ⟨by rfl, fun w hS => by go_simp⟩) hH ?_
          simp only [Act.put, List.setIfInBounds_toArray, List.set_cons_zero, List.set_cons_succ]
          refine wpAnyH_take (i := 13) (v := .bool true) (by simp only [List.getElem?_toArray, List.getElem?_cons_succ, List.getElem?_cons_zero]; rfl) (by kernel_rfl) (by kernel_rfl) (by kernel_rfl) (by intro _ _ _ h; exact h) (Or.inl ⟨by rfl, fun w hS => by go_simp⟩) hH ?_
          simp only [Act.put, List.setIfInBounds_toArray, List.set_cons_zero, List.set_cons_succ]
          refine wpAnyH_done (by kernel_rfl) ?_ _
          have hB := hH
          clear hH
          go_wp2
          go_ret
          exact ⟨rfl, BW.out.trans (hB.mono BW.out.size)⟩
end Go.Proofs.Ytalaolfcdaaaoaa.W
