/-
  A ring, told: what the program's (*keyring).tell answers.
-/
import Derived.Test.YtbfdbicddmffnabSrtW
import Derived.Test.YtbfdbicddmffnabLookK
import Derived.Test.YtbfdbicddmffnabKsA
import Derived.Test.YtbfdbicddmffnabTellF
import Derived.Test.YtbfdbicddmffnabHkW
namespace Go.Proofs.Ytbfdbicddmffnab.W
open Go.ChangeShapes Go.WideShapes Go.ChangeAt Go.RowKit Go.Maps
open Go.Proofs.Ytbfdbicddmffnab.M

theorem insT_drew {lo hi : Nat} {a w : World} (h : Ins lo hi a w) : Ins lo hi a w.drew := ⟨h.os, h.tape, h.output, h.size, h.block⟩
theorem insT_grow {lo hi : Nat} {a w w' : World} {row : Option Nat} (h : Ins lo hi a w) (hg : w.grownBy w' row) (hr : ∀ k, row = some k → a.heap.size ≤ k) : Ins lo hi a w' :=
  ⟨hg.os.trans h.os, hg.tape.trans h.tape, hg.output.trans h.output, Nat.le_trans h.size hg.size, fun k hk q => (hg.block k (Nat.lt_of_lt_of_le hk h.size) (fun e => by have := hr k e.symm; omega)).trans (h.block k hk q)⟩
theorem insT_set {lo hi : Nat} {a w : World} (h : Ins lo hi a w) {p : Addr} (h1 : lo ≤ p.block) (h2 : p.block < hi) (u : Value) : Ins lo hi a (w.setCell p u) :=
  ⟨h.os, h.tape, h.output, by have := h.size; simpa [World.setCell] using this, fun k hk q => (Below.heap_setCell _ _ _ _ (by omega)).trans (h.block k hk q)⟩
theorem cellT {lo hi : Nat} {w w' : World} (hS : Ins lo hi w w') {b o : Nat} {u : Value} (hc : w.cell? ⟨b, o, none⟩ = some u) (hb : b < lo ∨ hi ≤ b) : w'.cell? ⟨b, o, none⟩ = some u :=
  (World.cell?_of_block (w := w) (a := ⟨b, o, none⟩) (hS.block b (World.block_lt_of_cell? w _ hc) hb)).trans hc
theorem mapT {lo hi b n : Nat} {D : DataW Value} {w w' : World} (h : MapK w b n D) (hS : Ins lo hi w w') (hb : b < lo) : MapK w' b n D := by
  have hl := World.ownsMap.lt h
  obtain ⟨es, clock, h1, h2, h3, h4⟩ := h
  exact ⟨es, clock, (hS.block b hl (.inl hb)).trans h1, h2, h3, h4⟩
theorem cellT1 {w : World} {g : Nat} {x y y' : Value} {T : TypeId} (h : w.heap[g]? = some (.cells #[x, y] T)) : (w.setCell ⟨g, 1, none⟩ y').heap[g]? = some (.cells #[x, y'] T) := by
  have h1 := heap_setCell_same w g 1 _ T y' h
  simpa using h1
theorem sizeT1 (w : World) (a : Addr) (x : Value) : (w.setCell a x).heap.size = w.heap.size := by simp [World.setCell]
theorem look_f {b n : Nat} {D : DataW Value} {l : List Nat} (id' : Int) (hw : (Lit.int .i64 id').wf = true) (hat : D.atKey (.int .i64 id') zK = .held (.agg (arr l))) (w' : World) (hM : MapK w' b n D) :
    (Instr.lookup 117 (.map (some b)) (.int .i64 id') false).run Try.prog w' = .ok (.agg (arr l)) w' := by
  obtain ⟨v, ps, hr, hv⟩ := World.ownsMap.lookup hM lawK Try.underlying117 (zeroH w') (zd := zK) (zp := []) rfl (Go.Maps.keyOf_int_mk Try.underlying2 hw)
  rw [hat] at hv
  unfold Rv at hv
  simp only [Option.some.injEq, Prod.mk.injEq, DataW.held.injEq] at hv
  rw [hr, hv.1]
theorem idx_z (b o n c j : Nat) (hj : j < n) (w : World) : (Instr.indexAt 147 (.slice (some ⟨b, o, none⟩) n c) (.int .i64 (j : Int))).run Try.prog w = .ok (.pointer (some ⟨b, o + j, none⟩)) w := by
  have hs : ∀ w : World, (sizeOf (Try.prog.elem 147)).run Try.prog w = .ok 1 w := fun _ => by kernel_rfl
  rw [run_indexAt_slice (P := Try.prog) w 147 _ n c .i64 (j : Int) (by kernel_rfl)]
  simp [hs, hj, Result.andThen, Addr.add_lit]
set_option maxHeartbeats 4000000 in
set_option maxRecDepth 100000 in
theorem itell (g b nn : Nat) (p : Int) (ks : List (Int × List Nat)) (D : DataW Value) (w : World) (hV : w.heap[g]? = some (.cells #[.int .i64 p, .map (some b)] 119)) (hM : MapK w b nn D) (hn : nn ≤ 1000) (hH : HasTo ks ks.length D) (hA : AtTo ks ks.length D) (hr : Rise ks) (h16 : ∀ i (hi : i < ks.length), ((1 ≤ (ks[i]).1 ∧ (ks[i]).1 ≤ 255) ∧ (ks[i]).2.length = 16)) (h1 : 1 ≤ ks.length) (hl : ks.length ≤ 1000) :
    Calls Try.prog 97 #[.pointer (some ⟨g, 0, none⟩)] w fun e w' => ∃ v, e = .returned (.agg #[.int .i64 p, v]) ∧ OKs w' w.heap.size w'.heap.size v ks ∧ Below w.heap.size w w' := by
  have V := hid hV
  have HM := hid hM
  have HH := hid hH
  have HA := hid hA
  have HR := hid hr
  have K16 := hid h16
  obtain ⟨f0, f1, -, -⟩ := var2_facts hV
  have LGW := hid (show g < w.heap.size from var_lt hV)
  have LBW := hid (World.ownsMap.lt hM)
  clear hV hM hH hA hr h16
  have F0 := fun x => cell_alloc f0 x
  have F1 := fun x y => cell_alloc (cell_alloc f1 x) y
  clear f0 f1
  have V0 := hid (heap_alloc2_old w (.cells #[.int .i64 0, .slice none 0 0] 38) (.cells #[.int .i64 p, .slice none 0 0] 38))
  have V1 := hid (heap_alloc2_new w (.cells #[.int .i64 0, .slice none 0 0] 38) (.cells #[.int .i64 p, .slice none 0 0] 38))
  have BB := hid (below_alloc2 w (.cells #[.int .i64 0, .slice none 0 0] 38) (.cells #[.int .i64 p, .slice none 0 0] 38))
  have SZ := hid (show ((w.alloc (.cells #[.int .i64 0, .slice none 0 0] 38)).alloc (.cells #[.int .i64 p, .slice none 0 0] 38)).heap.size = w.heap.size + 2 by simp)
  go_enter Try.func97, Try.ntmps97
  go_wp2_with fail
  clear F0 F1
  replace V := hid (var_below BB.out V.out)
  replace HM := hid (HM.out.below BB.out)
  generalize (w.alloc (.cells #[.int .i64 0, .slice none 0 0] 38)).alloc (.cells #[.int .i64 p, .slice none 0 0] 38) = w0 at *
  obtain ⟨g1, hg1⟩ : ∃ g, g = w.heap.size + 1 := ⟨_, rfl⟩
  obtain ⟨g0, hg0⟩ : ∃ g, g = w.heap.size := ⟨_, rfl⟩
  rw [← hg1] at V1 ⊢
  rw [← hg0] at V0 ⊢
  replace hg1 := hid hg1
  replace hg0 := hid hg0
  refine (ikeys _ _).mono ?_
  rintro e w1 ⟨rfl, rfl⟩
  go_wp2_with fail
  refine (isorted b nn D w0 HM.out hn).mono ?_
  rintro e w2 ⟨v, ss, rfl, hp, hrow, -, hB⟩
  have ES := sorted_ids HM.out HH.out HR.out hp
  have EL : ss.length = ks.length := by
    have q := congrArg List.length ES
    rw [List.length_mergeSort] at q
    simpa [ids] using q
  rw [ES, EL] at hrow
  replace hB := (below_alloc1 w0 (.cells #[.map (some b)] 117)).trans (hB.mono (Nat.le_succ _))
  replace V := hid (var_below hB V.out)
  replace V1 := hid (var_below hB V1.out)
  replace V0 := hid (var_below hB V0.out)
  have HM2 := hid (HM.out.below hB)
  have LW := hid hB.size
  replace BB := hid (BB.out.trans (hB.mono BB.out.size))
  rcases hrow.2 with ⟨rfl, hz⟩ | ⟨gs, cs, cur, rfl, hgs, -⟩
  · omega
  have HC := hid (fun k (hk : k < ks.length) => show w2.cell? ⟨gs, k, none⟩ = some (.int .i64 (ks[k]).1) by
    rw [World.ownsRow.cellAt hrow k (by omega), List.getElem?_map, ids, List.getElem?_map, List.getElem?_eq_getElem hk]
    rfl)
  have GS := hid hgs
  clear hp ES EL hrow hB HM hgs
  have LG1 := hid (show g < g1 by rw [hg1.out]; have := LGW.out; omega)
  have LB1 := hid (show b < g1 by rw [hg1.out]; have := LBW.out; omega)
  have L1 := hid (show g1 < w2.heap.size from var_lt V1.out)
  obtain ⟨f0, f1, -, -⟩ := var2_facts V.out
  go_wp2_with fail
  go_loopw [5, 18] (fun s5 i wr => ∃ k : Nat, ∃ vv u5 : Value, k ≤ ks.length ∧ i = .int .i64 k ∧ s5 = u5 ∧ Hid (wr.heap[g1]? = some (.cells #[.int .i64 p, vv] 38)) ∧ Hid (OKs wr w2.heap.size wr.heap.size vv (ks.take k)) ∧ Hid (Ins g1 (g1 + 1) w2 wr)) (fun _ i _ => ks.length - (intOf i).toNat)
  case atStart => exact ⟨0, _, _, by omega, rfl, rfl, V1, hid (OKs.nil _ _ _), hid (Ins.refl _ _ _)⟩
  case round =>
    obtain ⟨k, vv, v5, hk, rfl, rfl, V1, OK, II⟩ := hrel
    by_cases hlt : k < ks.length
    · have N16 := hid (K16.out k hlt).2
      have q1 := cellT II.out (HC.out k hlt) (.inr (show g1 + 1 ≤ gs by have := GS.out; have := SZ.out; have := hg1.out; omega))
      have I1 := idx_z gs 0 ks.length cs k hlt
      rw [Nat.zero_add] at I1
      have k0 : (0 : Int) ≤ (k : Int) := by omega
      have k1 : (k : Int) < (ks.length : Int) := by omega
      have WF := hid (show (Lit.int .i64 (ks[k]).1).wf = true from WalkArith.wf_i64 (by have := (K16.out k hlt).1; omega))
      have LKF := hid (fun w' (h : MapK w' b nn D) => look_f (ks[k]).1 WF.out (HA.out k hlt hlt) w' h)
      have TK := hid (List.take_succ_eq_append_getElem hlt)
      have SL := hid II.out.size
      go_wp2_with fail
      clear q1
      refine wp_region_held_drew (S := fun w' => Ins g1 (g1 + 1) w2 w') (by kernel_rfl) (insT_drew II.out) (fun hH => ?_)
      replace V1 := hid (show wr.drew.heap[g1]? = _ from V1.out)
      replace OK := hid (show OKs wr.drew _ _ _ _ from OK.out)
      have ZS := hid (show wr.heap.size ≤ wr.drew.heap.size from Nat.le_refl _)
      generalize wr.drew = x at hH V1 OK ZS ⊢
      refine wpAnyH_take (i := 0) (v := .pointer (some ⟨g1, 1, none⟩)) (by simp only [List.getElem?_toArray, List.getElem?_cons_zero]; rfl) (by kernel_rfl) (by kernel_rfl) (by kernel_rfl) (by intro _ _ _ h; exact h) (Or.inl ⟨by rfl, fun w hS => by go_simp⟩) hH ?_
      simp only [Act.put, List.setIfInBounds_toArray, List.set_cons_zero, List.set_cons_succ]
      refine wpAnyH_take (i := 2) (v := .pointer (some ⟨g, 0, none⟩)) (by simp only [List.getElem?_toArray, List.getElem?_cons_succ, List.getElem?_cons_zero]; rfl) (by kernel_rfl) (by kernel_rfl) (by kernel_rfl) (by intro _ _ _ h; exact h) (Or.inl ⟨by rfl, fun w hS => by go_simp⟩) hH ?_
      simp only [Act.put, List.setIfInBounds_toArray, List.set_cons_zero, List.set_cons_succ]
      refine wpAnyH_take (i := 3) (v := .pointer (some ⟨g, 0, none⟩)) (by simp only [List.getElem?_toArray, List.getElem?_cons_succ, List.getElem?_cons_zero]; rfl) (by kernel_rfl) (by kernel_rfl) (by kernel_rfl) (by intro _ _ _ h; exact h) (Or.inl ⟨by rfl, fun w hS => by go_simp⟩) hH ?_
      simp only [Act.put, List.setIfInBounds_toArray, List.set_cons_zero, List.set_cons_succ]
      refine wpAnyH_take (i := 4) (v := .pointer (some ⟨g, 1, none⟩)) (by simp only [List.getElem?_toArray, List.getElem?_cons_succ, List.getElem?_cons_zero]; rfl) (by kernel_rfl) (by kernel_rfl) (by kernel_rfl) (by intro _ _ _ h; exact h) (Or.inl ⟨by rfl, fun w hS => by go_simp⟩) hH ?_
      simp only [Act.put, List.setIfInBounds_toArray, List.set_cons_zero, List.set_cons_succ]
      refine wpAnyH_take (i := 5) (v := .map (some b)) (by simp only [List.getElem?_toArray, List.getElem?_cons_succ, List.getElem?_cons_zero]; rfl) (by kernel_rfl) (by kernel_rfl) (by kernel_rfl) (by intro _ _ _ h; exact h) (Or.inl ⟨by rfl, fun w hS => by (have y := cellT hS f1 (.inl LG1.out); go_simp)⟩) hH ?_
      simp only [Act.put, List.setIfInBounds_toArray, List.set_cons_zero, List.set_cons_succ]
      refine wpAnyH_take (i := 6) (v := .int .i64 ks[k].fst) (by simp only [List.getElem?_toArray, List.getElem?_cons_succ, List.getElem?_cons_zero]; rfl) (by kernel_rfl) (by kernel_rfl) (by kernel_rfl) (by intro _ _ _ h; exact h) (Or.inl ⟨by rfl, fun w hS => by go_simp⟩) hH ?_
      simp only [Act.put, List.setIfInBounds_toArray, List.set_cons_zero, List.set_cons_succ]
      refine wpAnyH_take (i := 7) (v := .agg (arr (ks[k]).2)) (by simp only [List.getElem?_toArray, List.getElem?_cons_succ, List.getElem?_cons_zero]; rfl) (by kernel_rfl) (by kernel_rfl) (by kernel_rfl) (by intro _ _ _ h; exact h) (Or.inl ⟨by rfl, fun w hS => by (have y := LKF.out w (mapT HM2.out hS LB1.out); go_simp)⟩) hH ?_
      simp only [Act.put, List.setIfInBounds_toArray, List.set_cons_zero, List.set_cons_succ]
      refine wpAnyH_take (i := 8) (v := .int .i64 ks[k].fst) (by simp only [List.getElem?_toArray, List.getElem?_cons_succ, List.getElem?_cons_zero]; rfl) (by kernel_rfl) (by kernel_rfl) (by kernel_rfl) (by intro _ _ _ h; exact h) (Or.inl ⟨by rfl, fun w hS => by go_simp⟩) hH ?_
      simp only [Act.put, List.setIfInBounds_toArray, List.set_cons_zero, List.set_cons_succ]
      refine wpAnyH_ready (rs := [1, 9]) (by kernel_rfl) (by simp) ?_
      refine AllReadyH.cons (by simp only [List.getElem?_toArray, List.getElem?_cons_succ, List.getElem?_cons_zero]; rfl) (fun K hK => ?_) ?_
      · obtain ⟨q_0, q_1, -, -⟩ := var2_facts V1.out
        go_simp
        refine hK.out _ _ hH (fun hH => ?_)
        clear hK K q_0 q_1
        try simp only [Act.put, List.setIfInBounds_toArray, List.set_cons_zero, List.set_cons_succ]
        refine wpAnyH_ready (rs := [9]) (by kernel_rfl) (by simp) ?_
        refine AllReadyH.cons (by simp only [List.getElem?_toArray, List.getElem?_cons_succ, List.getElem?_cons_zero]; rfl) (fun K hK => ?_) AllReadyH.nil
        go_simp
        refine (itellK (ks[k]).2 (ks[k]).1 _ N16.out).mono ?_
        rintro e x9 ⟨gt, rfl, hO, hM⟩
        have SB := hid hH.size
        refine hK.out _ _ (hH.trans (Ins.of_below hM)) (fun hH => ?_)
        clear hK K
        replace V1 := hid (var_below hM V1.out)
        replace OK := hid (OK.out.below hM)
        have OU := hid (hO.mono ZS.out (Nat.le_refl _))
        replace ZS := hid (Nat.le_trans ZS.out hM.size)
        clear hO
        clear hM SB
        refine wpAnyH_ready (rs := [10]) (by kernel_rfl) (by simp) ?_
        refine AllReadyH.cons (by simp only [List.getElem?_toArray, List.getElem?_cons_succ, List.getElem?_cons_zero]; rfl) (fun K hK => ?_) AllReadyH.nil
        go_simp
        have hM := below_alloc1 x9 (.cells #[.int .i64 (ks[k]).1, .slice (some ⟨gt, 0, none⟩) 16 16] 40)
        replace V1 := hid (var_below hM V1.out)
        replace OK := hid (OK.out.below hM)
        replace OU := hid (OU.out.below hM)
        have VX := hid (heap_alloc_new x9 (.cells #[.int .i64 (ks[k]).1, .slice (some ⟨gt, 0, none⟩) 16 16] 40))
        replace ZS := hid (Nat.le_trans ZS.out hM.size)
        refine hK.out _ _ (hH.trans (Ins.of_below hM)) (fun hH => ?_)
        clear hK K hM
        generalize x9.alloc (.cells #[.int .i64 (ks[k]).1, .slice (some ⟨gt, 0, none⟩) 16 16] 40) = x10 at *
        refine wpAnyH_ready (rs := [11]) (by kernel_rfl) (by simp) ?_
        refine AllReadyH.cons (by simp only [List.getElem?_toArray, List.getElem?_cons_succ, List.getElem?_cons_zero]; rfl) (fun K hK => ?_) AllReadyH.nil
        obtain ⟨c0, c1, -, -⟩ := var2_facts VX.out
        refine step_appK (by rfl) _ _ (by rfl) _ _ (ks.take k) w2.heap.size wr.heap.size x9.heap.size 1 (ks[k]).1 (ks[k]).2 (by rfl) (by rfl) OK.out ZS.out SL.out c0 c1 rfl (OB.of OU.out.1) (by rw [List.length_take]; omega) ?_
        intro g2 cap2 x11 hO hG
        rw [List.length_take_of_le hk] at hO ⊢
        have OK2 := hid hO
        have V12 := hid (var_grown hG V1.out (fun e => absurd (OK.out.row (Nat.le_refl _) _ e.symm) (Nat.not_le_of_lt L1.out)))
        have S11 := hid hG.size
        refine hK.out _ _ (insT_grow hH hG (OK.out.row (Nat.le_refl _))) (fun hH => ?_)
        clear hK K hO hG c0 c1 VX OK OU V1
        refine wpAnyH_take (i := 12) (v := .pointer (some ⟨g1, 1, none⟩)) (by simp only [List.getElem?_toArray, List.getElem?_cons_succ, List.getElem?_cons_zero]; rfl) (by kernel_rfl) (by kernel_rfl) (by kernel_rfl) (by intro _ _ _ h; exact h) (Or.inl ⟨by rfl, fun w hS => by go_simp⟩) hH ?_
        simp only [Act.put, List.setIfInBounds_toArray, List.set_cons_zero, List.set_cons_succ]
        refine wpAnyH_ready (rs := [13]) (by kernel_rfl) (by simp) ?_
        refine AllReadyH.cons (by simp only [List.getElem?_toArray, List.getElem?_cons_succ, List.getElem?_cons_zero]; rfl) (fun K hK => ?_) AllReadyH.nil
        obtain ⟨e0, e1, e2, e3⟩ := var2_facts V12.out
        go_simp
        have V13 := hid (cellT1 (y' := .slice (some ⟨g2, 0, none⟩) (k + 1) cap2) V12.out)
        have OK3 := hid (OK2.out.low ⟨g1, 1, none⟩ L1.out (.slice (some ⟨g2, 0, none⟩) (k + 1) cap2))
        have ZE := hid (Nat.le_trans ZS.out S11.out)
        refine hK.out _ _ (insT_set hH (p := ⟨g1, 1, none⟩) (Nat.le_refl _) (Nat.lt_succ_self _) _) (fun hH => ?_)
        clear hK K e0 e1 e2 e3 V12 OK2
        refine wpAnyH_done (by kernel_rfl) ?_ _
        have IN := hid hH
        clear hH
        go_wp2
        go_roundw
        case rel => exact ⟨k + 1, _, _, hlt, by go_num, rfl, V13, hid (by rw [TK.out]; exact OK3.out.mono (Nat.le_refl _) (Nat.le_of_eq (sizeT1 _ _ _).symm)), IN⟩
        case measure => simp [intOf]; omega
      refine AllReadyH.cons (by simp only [List.getElem?_toArray, List.getElem?_cons_succ, List.getElem?_cons_zero]; rfl) (fun K hK => ?_) ?_
      · go_simp
        refine (itellK (ks[k]).2 (ks[k]).1 _ N16.out).mono ?_
        rintro e x9 ⟨gt, rfl, hO, hM⟩
        have SB := hid hH.size
        refine hK.out _ _ (hH.trans (Ins.of_below hM)) (fun hH => ?_)
        clear hK K
        replace V1 := hid (var_below hM V1.out)
        replace OK := hid (OK.out.below hM)
        have OU := hid (hO.mono ZS.out (Nat.le_refl _))
        replace ZS := hid (Nat.le_trans ZS.out hM.size)
        clear hO
        clear hM SB
        refine wpAnyH_ready (rs := [1, 10]) (by kernel_rfl) (by simp) ?_
        refine AllReadyH.cons (by simp only [List.getElem?_toArray, List.getElem?_cons_succ, List.getElem?_cons_zero]; rfl) (fun K hK => ?_) ?_
        · obtain ⟨q_0, q_1, -, -⟩ := var2_facts V1.out
          go_simp
          refine hK.out _ _ hH (fun hH => ?_)
          clear hK K q_0 q_1
          try simp only [Act.put, List.setIfInBounds_toArray, List.set_cons_zero, List.set_cons_succ]
          refine wpAnyH_ready (rs := [10]) (by kernel_rfl) (by simp) ?_
          refine AllReadyH.cons (by simp only [List.getElem?_toArray, List.getElem?_cons_succ, List.getElem?_cons_zero]; rfl) (fun K hK => ?_) AllReadyH.nil
          go_simp
          have hM := below_alloc1 x9 (.cells #[.int .i64 (ks[k]).1, .slice (some ⟨gt, 0, none⟩) 16 16] 40)
          replace V1 := hid (var_below hM V1.out)
          replace OK := hid (OK.out.below hM)
          replace OU := hid (OU.out.below hM)
          have VX := hid (heap_alloc_new x9 (.cells #[.int .i64 (ks[k]).1, .slice (some ⟨gt, 0, none⟩) 16 16] 40))
          replace ZS := hid (Nat.le_trans ZS.out hM.size)
          refine hK.out _ _ (hH.trans (Ins.of_below hM)) (fun hH => ?_)
          clear hK K hM
          generalize x9.alloc (.cells #[.int .i64 (ks[k]).1, .slice (some ⟨gt, 0, none⟩) 16 16] 40) = x10 at *
          refine wpAnyH_ready (rs := [11]) (by kernel_rfl) (by simp) ?_
          refine AllReadyH.cons (by simp only [List.getElem?_toArray, List.getElem?_cons_succ, List.getElem?_cons_zero]; rfl) (fun K hK => ?_) AllReadyH.nil
          obtain ⟨c0, c1, -, -⟩ := var2_facts VX.out
          refine step_appK (by rfl) _ _ (by rfl) _ _ (ks.take k) w2.heap.size wr.heap.size x9.heap.size 1 (ks[k]).1 (ks[k]).2 (by rfl) (by rfl) OK.out ZS.out SL.out c0 c1 rfl (OB.of OU.out.1) (by rw [List.length_take]; omega) ?_
          intro g2 cap2 x11 hO hG
          rw [List.length_take_of_le hk] at hO ⊢
          have OK2 := hid hO
          have V12 := hid (var_grown hG V1.out (fun e => absurd (OK.out.row (Nat.le_refl _) _ e.symm) (Nat.not_le_of_lt L1.out)))
          have S11 := hid hG.size
          refine hK.out _ _ (insT_grow hH hG (OK.out.row (Nat.le_refl _))) (fun hH => ?_)
          clear hK K hO hG c0 c1 VX OK OU V1
          refine wpAnyH_take (i := 12) (v := .pointer (some ⟨g1, 1, none⟩)) (by simp only [List.getElem?_toArray, List.getElem?_cons_succ, List.getElem?_cons_zero]; rfl) (by kernel_rfl) (by kernel_rfl) (by kernel_rfl) (by intro _ _ _ h; exact h) (Or.inl ⟨by rfl, fun w hS => by go_simp⟩) hH ?_
          simp only [Act.put, List.setIfInBounds_toArray, List.set_cons_zero, List.set_cons_succ]
          refine wpAnyH_ready (rs := [13]) (by kernel_rfl) (by simp) ?_
          refine AllReadyH.cons (by simp only [List.getElem?_toArray, List.getElem?_cons_succ, List.getElem?_cons_zero]; rfl) (fun K hK => ?_) AllReadyH.nil
          obtain ⟨e0, e1, e2, e3⟩ := var2_facts V12.out
          go_simp
          have V13 := hid (cellT1 (y' := .slice (some ⟨g2, 0, none⟩) (k + 1) cap2) V12.out)
          have OK3 := hid (OK2.out.low ⟨g1, 1, none⟩ L1.out (.slice (some ⟨g2, 0, none⟩) (k + 1) cap2))
          have ZE := hid (Nat.le_trans ZS.out S11.out)
          refine hK.out _ _ (insT_set hH (p := ⟨g1, 1, none⟩) (Nat.le_refl _) (Nat.lt_succ_self _) _) (fun hH => ?_)
          clear hK K e0 e1 e2 e3 V12 OK2
          refine wpAnyH_done (by kernel_rfl) ?_ _
          have IN := hid hH
          clear hH
          go_wp2
          go_roundw
          case rel => exact ⟨k + 1, _, _, hlt, by go_num, rfl, V13, hid (by rw [TK.out]; exact OK3.out.mono (Nat.le_refl _) (Nat.le_of_eq (sizeT1 _ _ _).symm)), IN⟩
          case measure => simp [intOf]; omega
        refine AllReadyH.cons (by simp only [List.getElem?_toArray, List.getElem?_cons_succ, List.getElem?_cons_zero]; rfl) (fun K hK => ?_) ?_
        · go_simp
          have hM := below_alloc1 x9 (.cells #[.int .i64 (ks[k]).1, .slice (some ⟨gt, 0, none⟩) 16 16] 40)
          replace V1 := hid (var_below hM V1.out)
          replace OK := hid (OK.out.below hM)
          replace OU := hid (OU.out.below hM)
          have VX := hid (heap_alloc_new x9 (.cells #[.int .i64 (ks[k]).1, .slice (some ⟨gt, 0, none⟩) 16 16] 40))
          replace ZS := hid (Nat.le_trans ZS.out hM.size)
          refine hK.out _ _ (hH.trans (Ins.of_below hM)) (fun hH => ?_)
          clear hK K hM
          generalize x9.alloc (.cells #[.int .i64 (ks[k]).1, .slice (some ⟨gt, 0, none⟩) 16 16] 40) = x10 at *
          refine wpAnyH_ready (rs := [1]) (by kernel_rfl) (by simp) ?_
          refine AllReadyH.cons (by simp only [List.getElem?_toArray, List.getElem?_cons_succ, List.getElem?_cons_zero]; rfl) (fun K hK => ?_) AllReadyH.nil
          obtain ⟨q_0, q_1, -, -⟩ := var2_facts V1.out
          go_simp
          refine hK.out _ _ hH (fun hH => ?_)
          clear hK K q_0 q_1
          try simp only [Act.put, List.setIfInBounds_toArray, List.set_cons_zero, List.set_cons_succ]
          refine wpAnyH_ready (rs := [11]) (by kernel_rfl) (by simp) ?_
          refine AllReadyH.cons (by simp only [List.getElem?_toArray, List.getElem?_cons_succ, List.getElem?_cons_zero]; rfl) (fun K hK => ?_) AllReadyH.nil
          obtain ⟨c0, c1, -, -⟩ := var2_facts VX.out
          refine step_appK (by rfl) _ _ (by rfl) _ _ (ks.take k) w2.heap.size wr.heap.size x9.heap.size 1 (ks[k]).1 (ks[k]).2 (by rfl) (by rfl) OK.out ZS.out SL.out c0 c1 rfl (OB.of OU.out.1) (by rw [List.length_take]; omega) ?_
          intro g2 cap2 x11 hO hG
          rw [List.length_take_of_le hk] at hO ⊢
          have OK2 := hid hO
          have V12 := hid (var_grown hG V1.out (fun e => absurd (OK.out.row (Nat.le_refl _) _ e.symm) (Nat.not_le_of_lt L1.out)))
          have S11 := hid hG.size
          refine hK.out _ _ (insT_grow hH hG (OK.out.row (Nat.le_refl _))) (fun hH => ?_)
          clear hK K hO hG c0 c1 VX OK OU V1
          refine wpAnyH_take (i := 12) (v := .pointer (some ⟨g1, 1, none⟩)) (by simp only [List.getElem?_toArray, List.getElem?_cons_succ, List.getElem?_cons_zero]; rfl) (by kernel_rfl) (by kernel_rfl) (by kernel_rfl) (by intro _ _ _ h; exact h) (Or.inl ⟨by rfl, fun w hS => by go_simp⟩) hH ?_
          simp only [Act.put, List.setIfInBounds_toArray, List.set_cons_zero, List.set_cons_succ]
          refine wpAnyH_ready (rs := [13]) (by kernel_rfl) (by simp) ?_
          refine AllReadyH.cons (by simp only [List.getElem?_toArray, List.getElem?_cons_succ, List.getElem?_cons_zero]; rfl) (fun K hK => ?_) AllReadyH.nil
          obtain ⟨e0, e1, e2, e3⟩ := var2_facts V12.out
          go_simp
          have V13 := hid (cellT1 (y' := .slice (some ⟨g2, 0, none⟩) (k + 1) cap2) V12.out)
          have OK3 := hid (OK2.out.low ⟨g1, 1, none⟩ L1.out (.slice (some ⟨g2, 0, none⟩) (k + 1) cap2))
          have ZE := hid (Nat.le_trans ZS.out S11.out)
          refine hK.out _ _ (insT_set hH (p := ⟨g1, 1, none⟩) (Nat.le_refl _) (Nat.lt_succ_self _) _) (fun hH => ?_)
          clear hK K e0 e1 e2 e3 V12 OK2
          refine wpAnyH_done (by kernel_rfl) ?_ _
          have IN := hid hH
          clear hH
          go_wp2
          go_roundw
          case rel => exact ⟨k + 1, _, _, hlt, by go_num, rfl, V13, hid (by rw [TK.out]; exact OK3.out.mono (Nat.le_refl _) (Nat.le_of_eq (sizeT1 _ _ _).symm)), IN⟩
          case measure => simp [intOf]; omega
        exact AllReadyH.nil
      exact AllReadyH.nil
    · have hke : k = ks.length := by omega
      subst hke
      rw [List.take_of_length_le (Nat.le_refl _)] at OK
      have VG0 := hid (II.out.var V0.out (.inl (show g0 < g1 by rw [hg0.out, hg1.out]; omega)))
      have L0 := hid (show g0 < w2.heap.size from var_lt V0.out)
      have BL := hid (BB.out.trans (II.out.below (show w.heap.size ≤ g1 by rw [hg1.out]; omega) BB.out.size))
      obtain ⟨pv, cv, rfl, -, -, -⟩ := OK.out.rd.parts
      obtain ⟨e0, e1, -, -⟩ := var2_facts V1.out
      obtain ⟨d0, d1, d2, d3⟩ := var2_facts VG0.out
      obtain ⟨n, hnn⟩ : ∃ n, n = ks.length := ⟨_, rfl⟩
      have OKF := hid (show OKs ((wr.setCell ⟨g0, 0, none⟩ (.int .i64 p)).setCell ⟨g0, 1, none⟩ (.slice pv ks.length cv)) w.heap.size ((wr.setCell ⟨g0, 0, none⟩ (.int .i64 p)).setCell ⟨g0, 1, none⟩ (.slice pv ks.length cv)).heap.size (.slice pv ks.length cv) ks from ((OK.out.low ⟨g0, 0, none⟩ L0.out _).low ⟨g0, 1, none⟩ L0.out _).mono BB.out.size (by rw [sizeT1, sizeT1]; exact Nat.le_refl _))
      rw [← hnn] at OKF e1 ⊢
      have hset := hid (var2_set (x' := .int .i64 p) (y' := .slice pv n cv) VG0.out)
      have hbel := hid (below_set2 (x := .int .i64 p) (y := .slice pv n cv) (g := g0) BL.out (Nat.le_of_eq hg0.out.symm))
      replace hnn := hid hnn
      clear f0 f1
      go_wp2
      exact bodyPost_ret (v := .agg #[.int .i64 p, .slice pv n cv]) (results_cell_row rfl _ _ g0 38 _ _ _ rfl hset.out Try.underlying38 rfl (by kernel_rfl)) rfl ⟨_, rfl, OKF.out, hbel.out⟩
end Go.Proofs.Ytbfdbicddmffnab.W
