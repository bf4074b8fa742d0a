/-
  What the program's forgetOld does.
-/
import Derived.Test.YtalaolfcdaaaoaaTsoW
namespace Go.Proofs.Ytalaolfcdaaaoaa.W
open Go.ChangeShapes Go.WideShapes Go.ChangeAt Go.RowKit Go.Maps
open Go.Proofs.Ytalaolfcdaaaoaa.M

theorem invKT (key : Value) (kl : Lit) (h : keyOf Try.prog 162 key = some kl) : ∃ x : Int, key = .agg #[.int .i64 x] := by
  obtain ⟨x, rfl, -⟩ := tk_inv h
  exact ⟨x, rfl⟩
theorem invVT (v : Value) (y : DataW Unit × List MemPlace) (h : unitElem v = some y) : ∃ c : Unit, v = (fun _ => Value.agg #[]) c := ⟨(), (unitElem_inv h).1⟩
theorem tk_self (x : Int) : (tk x).sameKey (tk x) = true := by simp [tk, Lit.sameKey]
theorem neT {w : World} {b n : Nat} {D : DataW Unit} (h : w.ownsMap Try.prog 162 unitElem b n D) {a : Addr} {u : Value} (hc : w.cell? a = some u) : some a.block ≠ some b := by
  intro e
  cases e
  obtain ⟨es, clock, hb, -⟩ := h
  simp [World.cell?, hb] at hc
theorem step_deleteR {P : Program} {ops : Array Oper} {o : Oper} {a : Act} {w : World} {K : Act → World → Prop} {Q : Exit → Act → World → Prop} {E : Prop} (hgd : o.guard = none) (m x : Operand) (t k : TypeId) (hop : o.op = Op.call { callee := Callee.builtin Builtin.delete, args := #[m, x], argTypes := #[t, k] })
    (e : TypeId) (KK : Keyed P k) (ht : P.underlying t = some (.map k e)) (R : Value → Option (DataW Unit × List MemPlace)) (b r n : Nat) (D : DataW Unit) (left : Lit → Bool) (cnt : Nat)
    (hm : a.eval m = .map (some b)) (h : w.ranges P k R b r n D left cnt) (key : Value) (kl : Lit) (hx : a.eval x = key) (hkey : keyOf P k key = some kl)
    (hK : ∀ w' cnt', w'.ranges P k R b r n (D.del kl) (fun z => left z && !z.sameKey kl) cnt' → cnt' ≤ cnt → w.mapTurned w' b → K (a.put o.dst (.tuple #[])) w') : if Region.wanted o (yielded ops a.tmps) = true then Oper.wp P o a w K Q else E := by
  have hw : Region.wanted o (yielded ops a.tmps) = true := by simp [Region.wanted, hgd]
  rw [if_pos hw]
  obtain ⟨w', cnt', hrun, r1, r2, r3⟩ := h.drop KK ht hkey o.type
  unfold Oper.wp
  simp [execOp, hop, resolve, invoke, builtin, hm, hx, hrun, Result.andThen]
  exact hK w' cnt' r1 r2 r3
set_option maxHeartbeats 2000000 in
set_option maxRecDepth 100000 in
theorem ifor (g b nn : Nat) (top : Int) (zs : List Int) (w : World) (hW : Win1 w g b nn top zs) (hr : -1 ≤ top ∧ top ≤ 1000000000) :
    Calls Try.prog 126 #[.pointer (some ⟨g, 0, none⟩)] w fun e w' => (∃ u, e = .returned u) ∧ Win1 w' g b nn top (zs.filter fun x => decide (top - 16 < x)) ∧ w.grownBy w' (some b) := by
  obtain ⟨hV, D, hO, hm⟩ := hW
  have HO := hid hO
  have HM := hid hm
  have HV := hid hV
  obtain ⟨f0, f1, -, -⟩ := var2_facts hV
  clear hV hO hm
  go_enter Try.func126, Try.ntmps126
  go_wp2_with (at_range; refine wpList_range_own _ rfl _ 157 rfl 162 184 lawT Try.underlying157 unitElem b nn D rfl HO.out ?_; intro w0 hrg0 hg0 hs0)
  go_frame
  have HR := hid hrg0
  have HG := hid (hg0.but (some b))
  have NB := hid (show some g ≠ some b from TSet.apart ⟨D, HO.out, HM.out⟩ HV.out)
  have LR := hid (show w.heap.size < w0.heap.size by omega)
  have LGW := hid (var_lt HV.out)
  obtain ⟨r, hrr⟩ : ∃ r, r = w.heap.size := ⟨_, rfl⟩
  rw [← hrr] at HR ⊢
  have ER := hid hrr
  clear hrg0 hg0 hs0 f0 f1 hrr
  go_loopw [2] (fun s2 wr => ∃ (u : Value) (D' : DataW Unit) (left : Lit → Bool) (cnt : Nat), s2 = u ∧ Hid (wr.ranges Try.prog 162 unitElem b r nn D' left cnt) ∧ Hid (∀ x, (Lit.int .i64 x).wf = true → (Maps.has D' (tk x) = true ↔ x ∈ zs ∧ (top - 16 < x ∨ left (tk x) = true))) ∧ Hid (w.grownBy wr (some b))) (fun _ wr => wr.rangeLeft b r)
  case atStart => exact ⟨_, D, Maps.has D, Maps.size D, rfl, HR, hid (fun x hx => ⟨fun h => ⟨(HM.out x hx).1 h, .inr h⟩, fun h => (HM.out x hx).2 h.1⟩), HG⟩
  case round =>
    clear HR HG
    obtain ⟨u, D', left, cnt, rfl, HR, HM2, HG⟩ := hrel
    have HV2 := hid (var_grown HG.out HV.out NB.out)
    go_wp2_with (at_next; refine wpList_next_ranges _ rfl _ rfl 162 lawT unitElem (fun x : Int => Value.agg #[.int .i64 x]) (fun _ : Unit => Value.agg #[]) invKT invVT b r nn D' left cnt rfl HR.out ?_ ?_)
    · intro _ hl0
      have HL := hid hl0
      clear hl0
      go_wp2
      try simp only [Exit.inBlock, Exit.then]
      go_end0
      exact ⟨⟨_, rfl⟩, ⟨HV2.out, D', HR.out.owns, fun x hx => by rw [HM2.out x hx, List.mem_filter, HL.out]; simp⟩, HG.out⟩
    · intro x c kl y w1 cnt1 hkey hlk hv hat hrg1 hlt hg1 hs1 hen
      obtain ⟨x', ex, hwx, rfl⟩ := tk_inv hkey
      obtain rfl : x = x' := by simpa using ex
      have hen2 : (Instr.entry (.pointer (some ⟨r, 0, none⟩))).run Try.prog w1 = .ok (.tuple #[.agg #[.int .i64 x], .agg #[]]) w1 := hen
      have G1 := HG.out.andThen hg1 (fun j e => by cases e; rw [ER.out]; exact .inl (Nat.le_refl _))
      have HV3 := var_grown G1 HV.out NB.out
      have HR1 := hid hrg1
      have HLT := hid hlt
      have HWX := hid hwx
      have GA := hid (grown_trans G1 (World.grownBy_alloc w1 (.cells #[.int .i64 x] 162) (some b)))
      have HRA := hid (hrg1.alloc (.cells #[.int .i64 x] 162))
      have HV4 := var_alloc (.cells #[.int .i64 x] 162) HV3
      have VX := heap_alloc_new w1 (.cells #[.int .i64 x] 162)
      have cx : (w1.alloc (.cells #[.int .i64 x] 162)).cell? ⟨w1.heap.size, 0, none⟩ = some (.int .i64 x) := by rw [cell_of_row _ _ 0 _ _ _ VX]; rfl
      obtain ⟨f0, f1, -, -⟩ := var2_facts HV4
      clear hkey hlk hv hat hrg1 hlt hg1 hs1 hen ex hwx G1 HV3 HV4 VX
      go_wp2_with fail
      generalize w1.alloc (.cells #[.int .i64 x] 162) = wa at *
      generalize w1.heap.size = gx at *
      refine wp_region_held_drew (S := fun w' => Below wa.heap.size wa w') (by kernel_rfl) (Below.refl _ _).drew (fun hH => ?_)
      refine wpAnyH_take (i := 0) (v := .pointer (some ⟨gx, 0, none⟩)) (by simp only [List.getElem?_toArray, List.getElem?_cons_zero]; rfl) (by kernel_rfl) (by kernel_rfl) (by kernel_rfl) (by intro _ _ _ h; exact h) (Or.inl ⟨by rfl, fun w hS => by go_simp⟩) hH ?_
      simp only [Act.put, List.setIfInBounds_toArray, List.set_cons_zero, List.set_cons_succ]
      refine wpAnyH_take (i := 1) (v := .int .i64 x) (by simp only [List.getElem?_toArray, List.getElem?_cons_succ, List.getElem?_cons_zero]; rfl) (by kernel_rfl) (by kernel_rfl) (by kernel_rfl) (by intro _ _ _ h; exact h) (Or.inl ⟨by rfl, fun w hS => by (have y0 := cell_kept hS cx; go_simp)⟩) hH ?_
      simp only [Act.put, List.setIfInBounds_toArray, List.set_cons_zero, List.set_cons_succ]
      refine wpAnyH_take (i := 2) (v := .pointer (some ⟨g, 0, none⟩)) (by simp only [List.getElem?_toArray, List.getElem?_cons_succ, List.getElem?_cons_zero]; rfl) (by kernel_rfl) (by kernel_rfl) (by kernel_rfl) (by intro _ _ _ h; exact h) (Or.inl ⟨by rfl, fun w hS => by go_simp⟩) hH ?_
      simp only [Act.put, List.setIfInBounds_toArray, List.set_cons_zero, List.set_cons_succ]
      refine wpAnyH_take (i := 3) (v := .pointer (some ⟨g, 0, none⟩)) (by simp only [List.getElem?_toArray, List.getElem?_cons_succ, List.getElem?_cons_zero]; rfl) (by kernel_rfl) (by kernel_rfl) (by kernel_rfl) (by intro _ _ _ h; exact h) (Or.inl ⟨by rfl, fun w hS => by go_simp⟩) hH ?_
      simp only [Act.put, List.setIfInBounds_toArray, List.set_cons_zero, List.set_cons_succ]
      refine wpAnyH_take (i := 4) (v := .pointer (some ⟨g, 0, none⟩)) (by simp only [List.getElem?_toArray, List.getElem?_cons_succ, List.getElem?_cons_zero]; rfl) (by kernel_rfl) (by kernel_rfl) (by kernel_rfl) (by intro _ _ _ h; exact h) (Or.inl ⟨by rfl, fun w hS => by go_simp⟩) hH ?_
      simp only [Act.put, List.setIfInBounds_toArray, List.set_cons_zero, List.set_cons_succ]
      refine wpAnyH_take (i := 5) (v := .int .i64 top) (by simp only [List.getElem?_toArray, List.getElem?_cons_succ, List.getElem?_cons_zero]; rfl) (by kernel_rfl) (by kernel_rfl) (by kernel_rfl) (by intro _ _ _ h; exact h) (Or.inl ⟨by rfl, fun w hS => by (have y0 := cell_kept hS f0; go_simp)⟩) hH ?_
      simp only [Act.put, List.setIfInBounds_toArray, List.set_cons_zero, List.set_cons_succ]
      refine wpAnyH_ready (rs := [6]) (by kernel_rfl) (by simp) ?_
      refine AllReadyH.cons (by simp only [List.getElem?_toArray, List.getElem?_cons_succ, List.getElem?_cons_zero]; rfl) (fun K hK => ?_) AllReadyH.nil
      go_simp
      refine (iold _ _ _ hr).mono ?_
      rintro e w2 ⟨rfl, hw2⟩
      rw [hw2]
      clear hw2 w2
      refine hK.out _ _ hH (fun hH => ?_)
      clear hK K
      refine wpAnyH_done (by kernel_rfl) ?_ _
      replace GA := hid (show w.grownBy wa.drew (some b) from ⟨GA.out.os, GA.out.tape, GA.out.output, GA.out.size, GA.out.block⟩)
      replace HRA := hid (HRA.out.kept (show wa.grownBy wa.drew none from ⟨rfl, rfl, rfl, Nat.le_refl _, fun _ _ _ => rfl⟩) (by simp) (by simp))
      replace f1 := cell_kept hH f1
      replace f0 := cell_kept hH f0
      replace cx := cell_kept hH cx
      clear hH
      generalize wa.drew = wb at *
      have MS := hid (fun z (hz : (Lit.int .i64 z).wf = true) (hne : z ≠ x) => sameKey_ne (a := tk z) (b := tk x) (fun q => hne (tk_inj hz HWX.out q)))
      by_cases ho : x ≤ top - 16
      · rw [decide_eq_true ho]
        have HOO := hid ho
        clear ho
        go_wp2_with fail
        refine wp_region_held_drew (S := fun w' => w'.cell? ⟨g, 1, none⟩ = some (.map (some b)) ∧ w'.cell? ⟨gx, 0, none⟩ = some (.int .i64 x)) (by kernel_rfl) ⟨f1, cx⟩ (fun hH => ?_)
        refine wpAnyH_take (i := 0) (v := .pointer (some ⟨g, 0, none⟩)) (by simp only [List.getElem?_toArray, List.getElem?_cons_zero]; rfl) (by kernel_rfl) (by kernel_rfl) (by kernel_rfl) (by intro _ _ _ h; exact h) (Or.inl ⟨by rfl, fun w hS => by go_simp⟩) hH ?_
        simp only [Act.put, List.setIfInBounds_toArray, List.set_cons_zero, List.set_cons_succ]
        refine wpAnyH_take (i := 1) (v := .pointer (some ⟨g, 0, none⟩)) (by simp only [List.getElem?_toArray, List.getElem?_cons_succ, List.getElem?_cons_zero]; rfl) (by kernel_rfl) (by kernel_rfl) (by kernel_rfl) (by intro _ _ _ h; exact h) (Or.inl ⟨by rfl, fun w hS => by go_simp⟩) hH ?_
        simp only [Act.put, List.setIfInBounds_toArray, List.set_cons_zero, List.set_cons_succ]
        refine wpAnyH_take (i := 2) (v := .pointer (some ⟨g, 1, none⟩)) (by simp only [List.getElem?_toArray, List.getElem?_cons_succ, List.getElem?_cons_zero]; rfl) (by kernel_rfl) (by kernel_rfl) (by kernel_rfl) (by intro _ _ _ h; exact h) (Or.inl ⟨by rfl, fun w hS => by go_simp⟩) hH ?_
        simp only [Act.put, List.setIfInBounds_toArray, List.set_cons_zero, List.set_cons_succ]
        refine wpAnyH_take (i := 3) (v := .map (some b)) (by simp only [List.getElem?_toArray, List.getElem?_cons_succ, List.getElem?_cons_zero]; rfl) (by kernel_rfl) (by kernel_rfl) (by kernel_rfl) (by intro _ _ _ h; exact h) (Or.inl ⟨by rfl, fun w hS => by (obtain ⟨y1, y2⟩ := hS; go_simp)⟩) hH ?_
        simp only [Act.put, List.setIfInBounds_toArray, List.set_cons_zero, List.set_cons_succ]
        refine wpAnyH_take (i := 4) (v := .agg #[.int .i64 x]) (by simp only [List.getElem?_toArray, List.getElem?_cons_succ, List.getElem?_cons_zero]; rfl) (by kernel_rfl) (by kernel_rfl) (by kernel_rfl) (by intro _ _ _ h; exact h) (Or.inl ⟨by rfl, fun w hS => by (obtain ⟨y1, y2⟩ := hS; go_simp)⟩) hH ?_
        simp only [Act.put, List.setIfInBounds_toArray, List.set_cons_zero, List.set_cons_succ]
        refine wpAnyH_ready (rs := [5]) (by kernel_rfl) (by simp) ?_
        refine AllReadyH.cons (by simp only [List.getElem?_toArray, List.getElem?_cons_succ, List.getElem?_cons_zero]; rfl) (fun K hK => ?_) AllReadyH.nil
        refine step_deleteR (by rfl) _ _ 157 162 (by rfl) 184 lawT Try.underlying157 unitElem b r nn D' _ cnt1 (by rfl) (HRA.out.kept (show wb.grownBy wb.drew none from ⟨rfl, rfl, rfl, Nat.le_refl _, fun _ _ _ => rfl⟩) (by simp) (by simp)) _ _ (by rfl) (tk_of x HWX.out) ?_
        intro w3 cnt3 hrg3 hle hturn
        refine hK.out _ _ ⟨hturn.grown.cell (show wb.drew.cell? _ = _ from f1) (neT HRA.out.owns f1), hturn.grown.cell (show wb.drew.cell? _ = _ from cx) (neT HRA.out.owns cx)⟩ (fun hH => ?_)
        clear hK K hH
        try simp only [Act.put]
        refine wpAnyH_done (by kernel_rfl) ?_ _
        try simp only [Exit.inBlock]
        have HT3 : Hid (wb.grownBy w3 (some b)) := hid ⟨hturn.grown.os, hturn.grown.tape, hturn.grown.output, hturn.grown.size, hturn.grown.block⟩
        clear hturn
        rw [strike_twice] at hrg3
        have HR3 := hid hrg3
        have HLE := hid hle
        clear hrg3 hle
        go_roundw
        case rel => exact ⟨_, _, _, _, _, _, _, _, _, _, _, _, _, _, _, _, _, ⟨_, D'.del (tk x), _, cnt3, rfl, HR3, hid (fun z hz => by
          by_cases e : z = x
          · subst e
            rw [has_del_same]
            have q1 := HOO.out
            constructor
            · intro q; cases q
            · rintro ⟨-, q | q⟩
              · omega
              · rw [tk_self] at q
                simp at q
          · rw [has_del_other (fun q => e (tk_inj hz HWX.out q)), HM2.out z hz, MS.out z hz e]
            simp), hid (grown_trans GA.out HT3.out)⟩, rfl⟩
        case measure => rw [HR3.out.left_eq, HR.out.left_eq]; have := HLE.out; have := HLT.out; omega
      · rw [decide_eq_false ho]
        have HOO := hid ho
        clear ho
        go_wp2
        go_roundw
        case rel => exact ⟨_, D', _, cnt1, rfl, HRA, hid (fun z hz => by
          by_cases e : z = x
          · subst e
            rw [HM2.out z hz]
            have := HOO.out
            simp
            omega
          · rw [HM2.out z hz, MS.out z hz e]
            simp), GA⟩
        case measure => rw [HRA.out.left_eq, HR.out.left_eq]; have := HLT.out; omega
end Go.Proofs.Ytalaolfcdaaaoaa.W
