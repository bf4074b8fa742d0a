/-
  A ring's copy: what the model's l4Copy answers.
  A ring's copy, whatever its keys' lengths. Generated out of L4cW.
  How two rings are drawn. Generated text.
  The faults of a ring: what the model's RingFault answers.
  A key of a ring: what the model's FindKey answers.
  Keys that are read out of blocks from a base on; and what stays of them where a variable is stored into.
-/
import Derived.Test.YtbfdbicddmffnabKsA
import Derived.Test.YtbfdbicddmffnabGFnTurns1
import Derived.Test.YtbfdbicddmffnabInWalks
import Derived.Test.YtbfdbicddmffnabRfF
import Derived.Deep.RegionHeld3
import Derived.Test.YtbfdbicddmffnabLetF3
import Derived.Test.YtbfdbicddmffnabKsM

namespace Go.Proofs.Ytbfdbicddmffnab.W
open Go.ChangeShapes Go.WideShapes Go.ChangeAt Go.RowKit
open Go.Proofs.Ytbfdbicddmffnab.M

theorem idx_kc (b o n c j : Nat) (hj : j < n) (w : World) : (Instr.indexAt 36 (.slice (some ⟨b, o, none⟩) n c) (.int .i64 (j : Int))).run Try.prog w = .ok (.pointer (some ⟨b, o + j * 2, none⟩)) w := by
  have hs : ∀ w : World, (sizeOf (Try.prog.elem 36)).run Try.prog w = .ok 2 w := fun _ => by kernel_rfl
  rw [run_indexAt_slice (P := Try.prog) w 36 _ n c .i64 (j : Int) (by kernel_rfl)]
  simp [hs, hj, Result.andThen, Addr.add_lit]
theorem cellS1 {w : World} {g : Nat} {x y y' : Value} {T : TypeId} (h : w.heap[g]? = some (.cells #[x, y] T)) : (w.setCell ⟨g, 1, none⟩ y').heap[g]? = some (.cells #[x, y'] T) := by
  have h1 := heap_setCell_same w g 1 _ T y' h
  simpa using h1
theorem var_other1 {w : World} {g : Nat} {o : Obj} (h : w.heap[g]? = some o) (a : Addr) (x : Value) (hne : g ≠ a.block) : (w.setCell a x).heap[g]? = some o := by
  rw [Below.heap_setCell _ _ _ _ hne]; exact h
theorem size_set1 (w : World) (a : Addr) (x : Value) : (w.setCell a x).heap.size = w.heap.size := by simp [World.setCell]
theorem rdk_blk {w : World} {b o n c : Nat} {ks : List (Int × List Nat)} (h : RdK w (.slice (some ⟨b, o, none⟩) n c) ks) (k : Nat) (hk : k < ks.length) : b < w.heap.size := by
  obtain ⟨a, cap, e, -, -, hcs⟩ := h
  obtain ⟨b', o', u, e', h1, -, -⟩ := hcs k hk
  subst e'
  cases e
  exact World.block_lt_of_cell? w _ h1
set_option maxHeartbeats 2000000 in
set_option maxRecDepth 100000 in
theorem l4copy (g : Nat) (p : Int) (v : Value) (ks : List (Int × List Nat)) (w : World) (hV : w.heap[g]? = some (.cells #[.int .i64 p, v] 38)) (h : RdK w v ks) (h16 : ∀ i (hi : i < ks.length), (ks[i]).2.length = 16) (hl : ks.length ≤ 1048576) :
    Calls Try.prog 92 #[.pointer (some ⟨g, 0, none⟩)] w fun e w' => ∃ v', e = .returned (.agg #[.int .i64 p, v']) ∧ OKs w' w.heap.size w'.heap.size v' ks ∧ Below w.heap.size w w' := by
  have H := hid h
  have V := hid hV
  have L16 := hid h16
  obtain ⟨a, cap, rfl, -, -, -⟩ := h.parts
  clear h hV h16
  obtain ⟨f0, f1, -, -⟩ := var2_facts V.out
  have F0 := fun x => cell_alloc f0 x
  clear f0 f1
  have V0 := hid (heap_alloc2_old w (.cells #[.int .i64 0, .slice none 0 0] 38) (.cells #[.int .i64 p, .slice none 0 0] 38))
  have V1 := hid (heap_alloc2_new w (.cells #[.int .i64 0, .slice none 0 0] 38) (.cells #[.int .i64 p, .slice none 0 0] 38))
  have BB := hid (below_alloc2 w (.cells #[.int .i64 0, .slice none 0 0] 38) (.cells #[.int .i64 p, .slice none 0 0] 38))
  have SZ := hid (show ((w.alloc (.cells #[.int .i64 0, .slice none 0 0] 38)).alloc (.cells #[.int .i64 p, .slice none 0 0] 38)).heap.size = w.heap.size + 2 by simp)
  go_enter Try.func92, Try.ntmps92
  go_wp2_with fail
  clear F0
  generalize (w.alloc (.cells #[.int .i64 0, .slice none 0 0] 38)).alloc (.cells #[.int .i64 p, .slice none 0 0] 38) = w0 at *
  obtain ⟨g1, hg1⟩ : ∃ g, g = w.heap.size + 1 := ⟨_, rfl⟩
  obtain ⟨g0, hg0⟩ : ∃ g, g = w.heap.size := ⟨_, rfl⟩
  rw [← hg1] at V1 ⊢
  rw [← hg0] at V0 ⊢
  replace hg1 := hid hg1
  replace hg0 := hid hg0
  go_loopw [4] (fun i wr => ∃ k : Nat, ∃ v : Value, k ≤ ks.length ∧ i = .int .i64 k ∧ Hid (wr.heap[g1]? = some (.cells #[.int .i64 p, v] 38)) ∧ Hid (wr.heap[g0]? = some (.cells #[.int .i64 0, .slice none 0 0] 38)) ∧ Hid (OKs wr w0.heap.size wr.heap.size v (ks.take k)) ∧ Hid (Below w.heap.size w wr) ∧ Hid (w0.heap.size ≤ wr.heap.size)) (fun i _ => ks.length - (intOf i).toNat)
  case atStart => exact ⟨0, _, by omega, rfl, V1, V0, hid (OKs.nil _ _ _), BB, hid (Nat.le_refl _)⟩
  case round =>
    obtain ⟨k, vv, hk, rfl, V1, V0, OK, BL, SL⟩ := hrel
    have VG := hid (var_below BL.out V.out)
    have HK := hid (H.out.below BL.out)
    by_cases hlt : k < ks.length
    · obtain ⟨a', ca', e, -, -, hcs⟩ := HK.out.parts
      cases e
      obtain ⟨b, o, u, rfl, q1, q2, q3⟩ := hcs k hlt
      replace H := H
      have N16 := hid (L16.out k hlt)
      obtain ⟨pu, cu, rfl, -, -, -⟩ := q3.parts
      rw [N16.out] at q2 q3
      have RU := hid q3
      obtain ⟨f0, f1, -, -⟩ := var2_facts VG.out
      have LB := hid (show b < g0 from hg0.out ▸ rdk_blk H.out k hlt)
      have LF := hid (show g < g0 from hg0.out ▸ var_lt V.out)
      have L1 := hid (show g1 < w0.heap.size by rw [hg1.out, SZ.out]; omega)
      have L0 := hid (show g0 < w0.heap.size by rw [hg0.out, SZ.out]; omega)
      have LG := hid (Nat.le_of_lt L0.out)
      have SG := hid (Nat.le_trans LG.out SL.out)
      have NE := hid (show g0 ≠ g1 by rw [hg0.out, hg1.out]; omega)
      have G01 := hid (show g0 ≤ g1 by rw [hg0.out, hg1.out]; omega)
      have TK := hid (List.take_succ_eq_append_getElem hlt)
      have I1 := idx_kc b o ks.length cap k hlt
      have k0 : (0 : Int) ≤ (k : Int) := by omega
      have k1 : (k : Int) < (ks.length : Int) := by omega
      clear hcs q3 HK
      go_wp2_with fail
      refine wp_region_held_drew (S := fun w' => Below g0 wr w') (by kernel_rfl) (Below.refl _ _).drew (fun hH => ?_)
      replace V1 := hid (show wr.drew.heap[g1]? = _ from V1.out)
      replace V0 := hid (show wr.drew.heap[g0]? = _ from V0.out)
      replace OK := hid (show OKs wr.drew _ _ _ _ from OK.out)
      replace RU := hid (show Rd wr.drew _ _ from RU.out)
      generalize wr.drew = x at hH V1 V0 OK RU ⊢
      refine wpAnyH_take (i := 0) (v := .pointer (some ⟨g1, 1, none⟩)) (by simp only [List.getElem?_toArray, List.getElem?_cons_zero]; rfl) (by kernel_rfl) (by kernel_rfl) (by kernel_rfl) (by intro _ _ _ h; exact h) (Or.inl ⟨by rfl, fun w hS => by go_simp⟩) hH ?_
      simp only [Act.put, List.setIfInBounds_toArray, List.set_cons_zero, List.set_cons_succ]
      refine wpAnyH_take (i := 2) (v := .pointer (some ⟨g, 0, none⟩)) (by simp only [List.getElem?_toArray, List.getElem?_cons_succ, List.getElem?_cons_zero]; rfl) (by kernel_rfl) (by kernel_rfl) (by kernel_rfl) (by intro _ _ _ h; exact h) (Or.inl ⟨by rfl, fun w hS => by go_simp⟩) hH ?_
      simp only [Act.put, List.setIfInBounds_toArray, List.set_cons_zero, List.set_cons_succ]
      refine wpAnyH_take (i := 3) (v := .pointer (some ⟨g, 0, none⟩)) (by simp only [List.getElem?_toArray, List.getElem?_cons_succ, List.getElem?_cons_zero]; rfl) (by kernel_rfl) (by kernel_rfl) (by kernel_rfl) (by intro _ _ _ h; exact h) (Or.inl ⟨by rfl, fun w hS => by go_simp⟩) hH ?_
      simp only [Act.put, List.setIfInBounds_toArray, List.set_cons_zero, List.set_cons_succ]
      refine wpAnyH_take (i := 4) (v := .pointer (some ⟨g, 1, none⟩)) (by simp only [List.getElem?_toArray, List.getElem?_cons_succ, List.getElem?_cons_zero]; rfl) (by kernel_rfl) (by kernel_rfl) (by kernel_rfl) (by intro _ _ _ h; exact h) (Or.inl ⟨by rfl, fun w hS => by go_simp⟩) hH ?_
      simp only [Act.put, List.setIfInBounds_toArray, List.set_cons_zero, List.set_cons_succ]
      refine wpAnyH_take (i := 5) (v := .slice (some ⟨b, o, none⟩) ks.length cap) (by simp only [List.getElem?_toArray, List.getElem?_cons_succ, List.getElem?_cons_zero]; rfl) (by kernel_rfl) (by kernel_rfl) (by kernel_rfl) (by intro _ _ _ h; exact h) (Or.inl ⟨by rfl, fun w hS => by (have y := cell_low hS f1 LF.out; go_simp)⟩) hH ?_
      simp only [Act.put, List.setIfInBounds_toArray, List.set_cons_zero, List.set_cons_succ]
      refine wpAnyH_take (i := 6) (v := .int .i64 (k : Int)) (by simp only [List.getElem?_toArray, List.getElem?_cons_succ, List.getElem?_cons_zero]; rfl) (by kernel_rfl) (by kernel_rfl) (by kernel_rfl) (by intro _ _ _ h; exact h) (Or.inl ⟨by rfl, fun w hS => by go_simp⟩) hH ?_
      simp only [Act.put, List.setIfInBounds_toArray, List.set_cons_zero, List.set_cons_succ]
      refine wpAnyH_take (i := 7) (v := .pointer (some ⟨b, o + k * 2, none⟩)) (by simp only [List.getElem?_toArray, List.getElem?_cons_succ, List.getElem?_cons_zero]; rfl) (by kernel_rfl) (by kernel_rfl) (by kernel_rfl) (by intro _ _ _ h; exact h) (Or.inl ⟨by rfl, fun w hS => by go_simp⟩) hH ?_
      simp only [Act.put, List.setIfInBounds_toArray, List.set_cons_zero, List.set_cons_succ]
      refine wpAnyH_take (i := 8) (v := .pointer (some ⟨b, o + k * 2, none⟩)) (by simp only [List.getElem?_toArray, List.getElem?_cons_succ, List.getElem?_cons_zero]; rfl) (by kernel_rfl) (by kernel_rfl) (by kernel_rfl) (by intro _ _ _ h; exact h) (Or.inl ⟨by rfl, fun w hS => by go_simp⟩) hH ?_
      simp only [Act.put, List.setIfInBounds_toArray, List.set_cons_zero, List.set_cons_succ]
      refine wpAnyH_take (i := 9) (v := .int .i64 (ks[k]).1) (by simp only [List.getElem?_toArray, List.getElem?_cons_succ, List.getElem?_cons_zero]; rfl) (by kernel_rfl) (by kernel_rfl) (by kernel_rfl) (by intro _ _ _ h; exact h) (Or.inl ⟨by rfl, fun w hS => by (have y := cell_low hS q1 LB.out; go_simp)⟩) hH ?_
      simp only [Act.put, List.setIfInBounds_toArray, List.set_cons_zero, List.set_cons_succ]
      refine wpAnyH_take (i := 10) (v := .pointer (some ⟨g, 0, none⟩)) (by simp only [List.getElem?_toArray, List.getElem?_cons_succ, List.getElem?_cons_zero]; rfl) (by kernel_rfl) (by kernel_rfl) (by kernel_rfl) (by intro _ _ _ h; exact h) (Or.inl ⟨by rfl, fun w hS => by go_simp⟩) hH ?_
      simp only [Act.put, List.setIfInBounds_toArray, List.set_cons_zero, List.set_cons_succ]
      refine wpAnyH_take (i := 11) (v := .pointer (some ⟨g, 0, none⟩)) (by simp only [List.getElem?_toArray, List.getElem?_cons_succ, List.getElem?_cons_zero]; rfl) (by kernel_rfl) (by kernel_rfl) (by kernel_rfl) (by intro _ _ _ h; exact h) (Or.inl ⟨by rfl, fun w hS => by go_simp⟩) hH ?_
      simp only [Act.put, List.setIfInBounds_toArray, List.set_cons_zero, List.set_cons_succ]
      refine wpAnyH_take (i := 12) (v := .pointer (some ⟨g, 1, none⟩)) (by simp only [List.getElem?_toArray, List.getElem?_cons_succ, List.getElem?_cons_zero]; rfl) (by kernel_rfl) (by kernel_rfl) (by kernel_rfl) (by intro _ _ _ h; exact h) (Or.inl ⟨by rfl, fun w hS => by go_simp⟩) hH ?_
      simp only [Act.put, List.setIfInBounds_toArray, List.set_cons_zero, List.set_cons_succ]
      refine wpAnyH_take (i := 13) (v := .slice (some ⟨b, o, none⟩) ks.length cap) (by simp only [List.getElem?_toArray, List.getElem?_cons_succ, List.getElem?_cons_zero]; rfl) (by kernel_rfl) (by kernel_rfl) (by kernel_rfl) (by intro _ _ _ h; exact h) (Or.inl ⟨by rfl, fun w hS => by (have y := cell_low hS f1 LF.out; go_simp)⟩) hH ?_
      simp only [Act.put, List.setIfInBounds_toArray, List.set_cons_zero, List.set_cons_succ]
      refine wpAnyH_take (i := 14) (v := .int .i64 (k : Int)) (by simp only [List.getElem?_toArray, List.getElem?_cons_succ, List.getElem?_cons_zero]; rfl) (by kernel_rfl) (by kernel_rfl) (by kernel_rfl) (by intro _ _ _ h; exact h) (Or.inl ⟨by rfl, fun w hS => by go_simp⟩) hH ?_
      simp only [Act.put, List.setIfInBounds_toArray, List.set_cons_zero, List.set_cons_succ]
      refine wpAnyH_take (i := 15) (v := .pointer (some ⟨b, o + k * 2, none⟩)) (by simp only [List.getElem?_toArray, List.getElem?_cons_succ, List.getElem?_cons_zero]; rfl) (by kernel_rfl) (by kernel_rfl) (by kernel_rfl) (by intro _ _ _ h; exact h) (Or.inl ⟨by rfl, fun w hS => by go_simp⟩) hH ?_
      simp only [Act.put, List.setIfInBounds_toArray, List.set_cons_zero, List.set_cons_succ]
      refine wpAnyH_take (i := 16) (v := .pointer (some ⟨b, o + k * 2 + 1, none⟩)) (by simp only [List.getElem?_toArray, List.getElem?_cons_succ, List.getElem?_cons_zero]; rfl) (by kernel_rfl) (by kernel_rfl) (by kernel_rfl) (by intro _ _ _ h; exact h) (Or.inl ⟨by rfl, fun w hS => by go_simp⟩) hH ?_
      simp only [Act.put, List.setIfInBounds_toArray, List.set_cons_zero, List.set_cons_succ]
      refine wpAnyH_take (i := 17) (v := .slice pu 16 cu) (by simp only [List.getElem?_toArray, List.getElem?_cons_succ, List.getElem?_cons_zero]; rfl) (by kernel_rfl) (by kernel_rfl) (by kernel_rfl) (by intro _ _ _ h; exact h) (Or.inl ⟨by rfl, fun w hS => by (have y := cell_low hS q2 LB.out; go_simp)⟩) hH ?_
      simp only [Act.put, List.setIfInBounds_toArray, List.set_cons_zero, List.set_cons_succ]
      refine wpAnyH_ready (rs := [1, 18]) (by kernel_rfl) (by simp) ?_
      refine AllReadyH.cons (by simp only [List.getElem?_toArray, List.getElem?_cons_succ, List.getElem?_cons_zero]; rfl) (fun K hK => ?_) ?_
      · obtain ⟨q_0, q_1, -, -⟩ := var2_facts V1.out
        go_simp
        refine hK.out _ _ hH (fun hH => ?_)
        clear hK K q_0 q_1
        try simp only [Act.put, List.setIfInBounds_toArray, List.set_cons_zero, List.set_cons_succ]
        refine wpAnyH_ready (rs := [18]) (by kernel_rfl) (by simp) ?_
        refine AllReadyH.cons (by simp only [List.getElem?_toArray, List.getElem?_cons_succ, List.getElem?_cons_zero]; rfl) (fun K hK => ?_) AllReadyH.nil
        go_simp
        refine (copyR _ (ks[k]).2 16 _ RU.out N16.out (by omega) (by omega)).mono ?_
        rintro e x18 ⟨vc, rfl, hO, hM⟩
        obtain ⟨pc, kc, rfl, -, -, -⟩ := hO.rd.parts
        have SB := hid hH.size
        refine hK.out _ _ (hH.trans (hM.mono (Nat.le_trans SG.out hH.size))) (fun hH => ?_)
        clear hK K
        replace V1 := hid (var_below hM V1.out)
        replace V0 := hid (var_below hM V0.out)
        replace OK := hid (OK.out.below hM)
        replace RU := hid (RU.out.below hM)
        have OU := hid ((OB.of hO.x).mono SB.out (Nat.le_refl _))
        clear hM SB
        refine wpAnyH_take (i := 19) (v := .agg #[.int .i64 (ks[k]).1, .slice pc (ks[k]).2.length kc]) (by simp only [List.getElem?_toArray, List.getElem?_cons_succ, List.getElem?_cons_zero]; rfl) (by kernel_rfl) (by kernel_rfl) (by kernel_rfl) (by intro _ _ _ h; exact h) (Or.inl ⟨by rfl, fun w hS => by go_simp⟩) hH ?_
        simp only [Act.put, List.setIfInBounds_toArray, List.set_cons_zero, List.set_cons_succ]
        refine wpAnyH_ready (rs := [20]) (by kernel_rfl) (by simp) ?_
        refine AllReadyH.cons (by simp only [List.getElem?_toArray, List.getElem?_cons_succ, List.getElem?_cons_zero]; rfl) (fun K hK => ?_) AllReadyH.nil
        go_simp
        have hM := below_alloc1 x18 (.cells #[.int .i64 (ks[k]).1, .slice pc (ks[k]).2.length kc] 40)
        replace V1 := hid (var_below hM V1.out)
        replace V0 := hid (var_below hM V0.out)
        replace OK := hid (OK.out.below hM)
        replace RU := hid (RU.out.below hM)
        replace OU := hid (OU.out.below hM)
        have VX := hid (heap_alloc_new x18 (.cells #[.int .i64 (ks[k]).1, .slice pc (ks[k]).2.length kc] 40))
        refine hK.out _ _ (hH.alloc (Nat.le_trans SG.out hH.size) _) (fun hH => ?_)
        clear hK K hM
        generalize x18.alloc (.cells #[.int .i64 (ks[k]).1, .slice pc (ks[k]).2.length kc] 40) = x20 at *
        refine wpAnyH_ready (rs := [21]) (by kernel_rfl) (by simp) ?_
        refine AllReadyH.cons (by simp only [List.getElem?_toArray, List.getElem?_cons_succ, List.getElem?_cons_zero]; rfl) (fun K hK => ?_) AllReadyH.nil
        obtain ⟨c0, c1, -, -⟩ := var2_facts VX.out
        refine step_appK (by rfl) _ _ (by rfl) _ _ (ks.take k) w0.heap.size wr.heap.size x18.heap.size 1 (ks[k]).1 (ks[k]).2 (by rfl) (by rfl) OK.out hH.size SL.out c0 c1 rfl (OB.of OU.out.1) (by rw [List.length_take]; omega) ?_
        intro g2 cap2 x21 hO hG
        rw [List.length_take_of_le hk] at hO ⊢
        have OK2 := hid hO
        have V12 := hid (var_grown hG V1.out (fun e => absurd (OK.out.row (Nat.le_refl _) _ e.symm) (Nat.not_le_of_lt L1.out)))
        have V02 := hid (var_grown hG V0.out (fun e => absurd (OK.out.row (Nat.le_refl _) _ e.symm) (Nat.not_le_of_lt L0.out)))
        refine hK.out _ _ (hH.grown hG (Nat.le_trans SG.out hH.size) (OK.out.row LG.out)) (fun hH => ?_)
        clear hK K hO hG c0 c1 VX OK OU V1 V0
        refine wpAnyH_take (i := 22) (v := .pointer (some ⟨g1, 1, none⟩)) (by simp only [List.getElem?_toArray, List.getElem?_cons_succ, List.getElem?_cons_zero]; rfl) (by kernel_rfl) (by kernel_rfl) (by kernel_rfl) (by intro _ _ _ h; exact h) (Or.inl ⟨by rfl, fun w hS => by go_simp⟩) hH ?_
        simp only [Act.put, List.setIfInBounds_toArray, List.set_cons_zero, List.set_cons_succ]
        refine wpAnyH_ready (rs := [23]) (by kernel_rfl) (by simp) ?_
        refine AllReadyH.cons (by simp only [List.getElem?_toArray, List.getElem?_cons_succ, List.getElem?_cons_zero]; rfl) (fun K hK => ?_) AllReadyH.nil
        obtain ⟨e0, e1, e2, e3⟩ := var2_facts V12.out
        go_simp
        have V13 := hid (cellS1 (y' := .slice (some ⟨g2, 0, none⟩) (k + 1) cap2) V12.out)
        have V03 := hid (var_other1 V02.out ⟨g1, 1, none⟩ (.slice (some ⟨g2, 0, none⟩) (k + 1) cap2) NE.out)
        have OK3 := hid (OK2.out.low ⟨g1, 1, none⟩ L1.out (.slice (some ⟨g2, 0, none⟩) (k + 1) cap2))
        refine hK.out _ _ (hH.setCell (p := ⟨g1, 1, none⟩) G01.out _) (fun hH => ?_)
        clear hK K e0 e1 e2 e3 V12 V02 OK2
        refine wpAnyH_done (by kernel_rfl) ?_ _
        have BN := hid (BL.out.trans (hg0.out ▸ hH))
        have SN := hid (Nat.le_trans SL.out hH.size)
        clear hH
        go_wp2
        go_roundw
        case rel => exact ⟨k + 1, _, hlt, by go_num, V13, V03, hid (by rw [TK.out]; exact OK3.out.mono (Nat.le_refl _) (Nat.le_of_eq (size_set1 _ _ _).symm)), BN, SN⟩
        case measure => simp [intOf]; omega
      refine AllReadyH.cons (by simp only [List.getElem?_toArray, List.getElem?_cons_succ, List.getElem?_cons_zero]; rfl) (fun K hK => ?_) ?_
      · go_simp
        refine (copyR _ (ks[k]).2 16 _ RU.out N16.out (by omega) (by omega)).mono ?_
        rintro e x18 ⟨vc, rfl, hO, hM⟩
        obtain ⟨pc, kc, rfl, -, -, -⟩ := hO.rd.parts
        have SB := hid hH.size
        refine hK.out _ _ (hH.trans (hM.mono (Nat.le_trans SG.out hH.size))) (fun hH => ?_)
        clear hK K
        replace V1 := hid (var_below hM V1.out)
        replace V0 := hid (var_below hM V0.out)
        replace OK := hid (OK.out.below hM)
        replace RU := hid (RU.out.below hM)
        have OU := hid ((OB.of hO.x).mono SB.out (Nat.le_refl _))
        clear hM SB
        refine wpAnyH_take (i := 19) (v := .agg #[.int .i64 (ks[k]).1, .slice pc (ks[k]).2.length kc]) (by simp only [List.getElem?_toArray, List.getElem?_cons_succ, List.getElem?_cons_zero]; rfl) (by kernel_rfl) (by kernel_rfl) (by kernel_rfl) (by intro _ _ _ h; exact h) (Or.inl ⟨by rfl, fun w hS => by go_simp⟩) hH ?_
        simp only [Act.put, List.setIfInBounds_toArray, List.set_cons_zero, List.set_cons_succ]
        refine wpAnyH_ready (rs := [1, 20]) (by kernel_rfl) (by simp) ?_
        refine AllReadyH.cons (by simp only [List.getElem?_toArray, List.getElem?_cons_succ, List.getElem?_cons_zero]; rfl) (fun K hK => ?_) ?_
        · obtain ⟨q_0, q_1, -, -⟩ := var2_facts V1.out
          go_simp
          refine hK.out _ _ hH (fun hH => ?_)
          clear hK K q_0 q_1
          try simp only [Act.put, List.setIfInBounds_toArray, List.set_cons_zero, List.set_cons_succ]
          refine wpAnyH_ready (rs := [20]) (by kernel_rfl) (by simp) ?_
          refine AllReadyH.cons (by simp only [List.getElem?_toArray, List.getElem?_cons_succ, List.getElem?_cons_zero]; rfl) (fun K hK => ?_) AllReadyH.nil
          go_simp
          have hM := below_alloc1 x18 (.cells #[.int .i64 (ks[k]).1, .slice pc (ks[k]).2.length kc] 40)
          replace V1 := hid (var_below hM V1.out)
          replace V0 := hid (var_below hM V0.out)
          replace OK := hid (OK.out.below hM)
          replace RU := hid (RU.out.below hM)
          replace OU := hid (OU.out.below hM)
          have VX := hid (heap_alloc_new x18 (.cells #[.int .i64 (ks[k]).1, .slice pc (ks[k]).2.length kc] 40))
          refine hK.out _ _ (hH.alloc (Nat.le_trans SG.out hH.size) _) (fun hH => ?_)
          clear hK K hM
          generalize x18.alloc (.cells #[.int .i64 (ks[k]).1, .slice pc (ks[k]).2.length kc] 40) = x20 at *
          refine wpAnyH_ready (rs := [21]) (by kernel_rfl) (by simp) ?_
          refine AllReadyH.cons (by simp only [List.getElem?_toArray, List.getElem?_cons_succ, List.getElem?_cons_zero]; rfl) (fun K hK => ?_) AllReadyH.nil
          obtain ⟨c0, c1, -, -⟩ := var2_facts VX.out
          refine step_appK (by rfl) _ _ (by rfl) _ _ (ks.take k) w0.heap.size wr.heap.size x18.heap.size 1 (ks[k]).1 (ks[k]).2 (by rfl) (by rfl) OK.out hH.size SL.out c0 c1 rfl (OB.of OU.out.1) (by rw [List.length_take]; omega) ?_
          intro g2 cap2 x21 hO hG
          rw [List.length_take_of_le hk] at hO ⊢
          have OK2 := hid hO
          have V12 := hid (var_grown hG V1.out (fun e => absurd (OK.out.row (Nat.le_refl _) _ e.symm) (Nat.not_le_of_lt L1.out)))
          have V02 := hid (var_grown hG V0.out (fun e => absurd (OK.out.row (Nat.le_refl _) _ e.symm) (Nat.not_le_of_lt L0.out)))
          refine hK.out _ _ (hH.grown hG (Nat.le_trans SG.out hH.size) (OK.out.row LG.out)) (fun hH => ?_)
          clear hK K hO hG c0 c1 VX OK OU V1 V0
          refine wpAnyH_take (i := 22) (v := .pointer (some ⟨g1, 1, none⟩)) (by simp only [List.getElem?_toArray, List.getElem?_cons_succ, List.getElem?_cons_zero]; rfl) (by kernel_rfl) (by kernel_rfl) (by kernel_rfl) (by intro _ _ _ h; exact h) (Or.inl ⟨by rfl, fun w hS => by go_simp⟩) hH ?_
          simp only [Act.put, List.setIfInBounds_toArray, List.set_cons_zero, List.set_cons_succ]
          refine wpAnyH_ready (rs := [23]) (by kernel_rfl) (by simp) ?_
          refine AllReadyH.cons (by simp only [List.getElem?_toArray, List.getElem?_cons_succ, List.getElem?_cons_zero]; rfl) (fun K hK => ?_) AllReadyH.nil
          obtain ⟨e0, e1, e2, e3⟩ := var2_facts V12.out
          go_simp
          have V13 := hid (cellS1 (y' := .slice (some ⟨g2, 0, none⟩) (k + 1) cap2) V12.out)
          have V03 := hid (var_other1 V02.out ⟨g1, 1, none⟩ (.slice (some ⟨g2, 0, none⟩) (k + 1) cap2) NE.out)
          have OK3 := hid (OK2.out.low ⟨g1, 1, none⟩ L1.out (.slice (some ⟨g2, 0, none⟩) (k + 1) cap2))
          refine hK.out _ _ (hH.setCell (p := ⟨g1, 1, none⟩) G01.out _) (fun hH => ?_)
          clear hK K e0 e1 e2 e3 V12 V02 OK2
          refine wpAnyH_done (by kernel_rfl) ?_ _
          have BN := hid (BL.out.trans (hg0.out ▸ hH))
          have SN := hid (Nat.le_trans SL.out hH.size)
          clear hH
          go_wp2
          go_roundw
          case rel => exact ⟨k + 1, _, hlt, by go_num, V13, V03, hid (by rw [TK.out]; exact OK3.out.mono (Nat.le_refl _) (Nat.le_of_eq (size_set1 _ _ _).symm)), BN, SN⟩
          case measure => simp [intOf]; omega
        refine AllReadyH.cons (by simp only [List.getElem?_toArray, List.getElem?_cons_succ, List.getElem?_cons_zero]; rfl) (fun K hK => ?_) ?_
        · go_simp
          have hM := below_alloc1 x18 (.cells #[.int .i64 (ks[k]).1, .slice pc (ks[k]).2.length kc] 40)
          replace V1 := hid (var_below hM V1.out)
          replace V0 := hid (var_below hM V0.out)
          replace OK := hid (OK.out.below hM)
          replace RU := hid (RU.out.below hM)
          replace OU := hid (OU.out.below hM)
          have VX := hid (heap_alloc_new x18 (.cells #[.int .i64 (ks[k]).1, .slice pc (ks[k]).2.length kc] 40))
          refine hK.out _ _ (hH.alloc (Nat.le_trans SG.out hH.size) _) (fun hH => ?_)
          clear hK K hM
          generalize x18.alloc (.cells #[.int .i64 (ks[k]).1, .slice pc (ks[k]).2.length kc] 40) = x20 at *
          refine wpAnyH_ready (rs := [1]) (by kernel_rfl) (by simp) ?_
          refine AllReadyH.cons (by simp only [List.getElem?_toArray, List.getElem?_cons_succ, List.getElem?_cons_zero]; rfl) (fun K hK => ?_) AllReadyH.nil
          obtain ⟨q_0, q_1, -, -⟩ := var2_facts V1.out
          go_simp
          refine hK.out _ _ hH (fun hH => ?_)
          clear hK K q_0 q_1
          try simp only [Act.put, List.setIfInBounds_toArray, List.set_cons_zero, List.set_cons_succ]
          refine wpAnyH_ready (rs := [21]) (by kernel_rfl) (by simp) ?_
          refine AllReadyH.cons (by simp only [List.getElem?_toArray, List.getElem?_cons_succ, List.getElem?_cons_zero]; rfl) (fun K hK => ?_) AllReadyH.nil
          obtain ⟨c0, c1, -, -⟩ := var2_facts VX.out
          refine step_appK (by rfl) _ _ (by rfl) _ _ (ks.take k) w0.heap.size wr.heap.size x18.heap.size 1 (ks[k]).1 (ks[k]).2 (by rfl) (by rfl) OK.out hH.size SL.out c0 c1 rfl (OB.of OU.out.1) (by rw [List.length_take]; omega) ?_
          intro g2 cap2 x21 hO hG
          rw [List.length_take_of_le hk] at hO ⊢
          have OK2 := hid hO
          have V12 := hid (var_grown hG V1.out (fun e => absurd (OK.out.row (Nat.le_refl _) _ e.symm) (Nat.not_le_of_lt L1.out)))
          have V02 := hid (var_grown hG V0.out (fun e => absurd (OK.out.row (Nat.le_refl _) _ e.symm) (Nat.not_le_of_lt L0.out)))
          refine hK.out _ _ (hH.grown hG (Nat.le_trans SG.out hH.size) (OK.out.row LG.out)) (fun hH => ?_)
          clear hK K hO hG c0 c1 VX OK OU V1 V0
          refine wpAnyH_take (i := 22) (v := .pointer (some ⟨g1, 1, none⟩)) (by simp only [List.getElem?_toArray, List.getElem?_cons_succ, List.getElem?_cons_zero]; rfl) (by kernel_rfl) (by kernel_rfl) (by kernel_rfl) (by intro _ _ _ h; exact h) (Or.inl ⟨by rfl, fun w hS => by go_simp⟩) hH ?_
          simp only [Act.put, List.setIfInBounds_toArray, List.set_cons_zero, List.set_cons_succ]
          refine wpAnyH_ready (rs := [23]) (by kernel_rfl) (by simp) ?_
          refine AllReadyH.cons (by simp only [List.getElem?_toArray, List.getElem?_cons_succ, List.getElem?_cons_zero]; rfl) (fun K hK => ?_) AllReadyH.nil
          obtain ⟨e0, e1, e2, e3⟩ := var2_facts V12.out
          go_simp
          have V13 := hid (cellS1 (y' := .slice (some ⟨g2, 0, none⟩) (k + 1) cap2) V12.out)
          have V03 := hid (var_other1 V02.out ⟨g1, 1, none⟩ (.slice (some ⟨g2, 0, none⟩) (k + 1) cap2) NE.out)
          have OK3 := hid (OK2.out.low ⟨g1, 1, none⟩ L1.out (.slice (some ⟨g2, 0, none⟩) (k + 1) cap2))
          refine hK.out _ _ (hH.setCell (p := ⟨g1, 1, none⟩) G01.out _) (fun hH => ?_)
          clear hK K e0 e1 e2 e3 V12 V02 OK2
          refine wpAnyH_done (by kernel_rfl) ?_ _
          have BN := hid (BL.out.trans (hg0.out ▸ hH))
          have SN := hid (Nat.le_trans SL.out hH.size)
          clear hH
          go_wp2
          go_roundw
          case rel => exact ⟨k + 1, _, hlt, by go_num, V13, V03, hid (by rw [TK.out]; exact OK3.out.mono (Nat.le_refl _) (Nat.le_of_eq (size_set1 _ _ _).symm)), BN, SN⟩
          case measure => simp [intOf]; omega
        exact AllReadyH.nil
      exact AllReadyH.nil
    · have hke : k = ks.length := by omega
      subst hke
      rw [List.take_of_length_le (Nat.le_refl _)] at OK
      have L1 := hid (show g1 < w0.heap.size by rw [hg1.out, SZ.out]; omega)
      have L0 := hid (show g0 < w0.heap.size by rw [hg0.out, SZ.out]; omega)
      obtain ⟨pv, cv, rfl, -, -, -⟩ := OK.out.rd.parts
      obtain ⟨f0, f1, -, -⟩ := var2_facts VG.out
      obtain ⟨e0, e1, -, -⟩ := var2_facts V1.out
      obtain ⟨d0, d1, d2, d3⟩ := var2_facts V0.out
      obtain ⟨n, hn⟩ : ∃ n, n = ks.length := ⟨_, rfl⟩
      have OKF := hid (show OKs ((wr.setCell ⟨g0, 0, none⟩ (.int .i64 p)).setCell ⟨g0, 1, none⟩ (.slice pv ks.length cv)) w.heap.size ((wr.setCell ⟨g0, 0, none⟩ (.int .i64 p)).setCell ⟨g0, 1, none⟩ (.slice pv ks.length cv)).heap.size (.slice pv ks.length cv) ks from ((OK.out.low ⟨g0, 0, none⟩ L0.out _).low ⟨g0, 1, none⟩ L0.out _).mono (by rw [SZ.out]; omega) (by rw [size_set1, size_set1]; exact Nat.le_refl _))
      rw [← hn] at OKF e1 f1 ⊢
      have hset := hid (var2_set (x' := .int .i64 p) (y' := .slice pv n cv) V0.out)
      have hbel := hid (below_set2 (x := .int .i64 p) (y := .slice pv n cv) (g := g0) BL.out (Nat.le_of_eq hg0.out.symm))
      replace hn := hid hn
      go_wp2
      exact bodyPost_ret (v := .agg #[.int .i64 p, .slice pv n cv]) (results_cell_row rfl _ _ g0 38 _ _ _ rfl hset.out Try.underlying38 rfl (by kernel_rfl)) rfl ⟨_, rfl, OKF.out, hbel.out⟩
end Go.Proofs.Ytbfdbicddmffnab.W

namespace Go.Proofs.Ytbfdbicddmffnab.W
open Go.ChangeShapes Go.WideShapes Go.ChangeAt Go.RowKit
open Go.Proofs.Ytbfdbicddmffnab.M

set_option maxHeartbeats 2000000 in
set_option maxRecDepth 100000 in
theorem l4copyG (g : Nat) (p : Int) (v : Value) (ks : List (Int × List Nat)) (w : World) (hV : w.heap[g]? = some (.cells #[.int .i64 p, v] 38)) (h : RdK w v ks) (h16 : ∀ i (hi : i < ks.length), 1 ≤ (ks[i]).2.length ∧ (ks[i]).2.length ≤ 4096) (hl : ks.length ≤ 1048576) :
    Calls Try.prog 92 #[.pointer (some ⟨g, 0, none⟩)] w fun e w' => ∃ v', e = .returned (.agg #[.int .i64 p, v']) ∧ OKs w' w.heap.size w'.heap.size v' ks ∧ Below w.heap.size w w' := by
  have H := hid h
  have V := hid hV
  have L16 := hid h16
  obtain ⟨a, cap, rfl, -, -, -⟩ := h.parts
  clear h hV h16
  obtain ⟨f0, f1, -, -⟩ := var2_facts V.out
  have F0 := fun x => cell_alloc f0 x
  clear f0 f1
  have V0 := hid (heap_alloc2_old w (.cells #[.int .i64 0, .slice none 0 0] 38) (.cells #[.int .i64 p, .slice none 0 0] 38))
  have V1 := hid (heap_alloc2_new w (.cells #[.int .i64 0, .slice none 0 0] 38) (.cells #[.int .i64 p, .slice none 0 0] 38))
  have BB := hid (below_alloc2 w (.cells #[.int .i64 0, .slice none 0 0] 38) (.cells #[.int .i64 p, .slice none 0 0] 38))
  have SZ := hid (show ((w.alloc (.cells #[.int .i64 0, .slice none 0 0] 38)).alloc (.cells #[.int .i64 p, .slice none 0 0] 38)).heap.size = w.heap.size + 2 by simp)
  go_enter Try.func92, Try.ntmps92
  go_wp2_with fail
  clear F0
  generalize (w.alloc (.cells #[.int .i64 0, .slice none 0 0] 38)).alloc (.cells #[.int .i64 p, .slice none 0 0] 38) = w0 at *
  obtain ⟨g1, hg1⟩ : ∃ g, g = w.heap.size + 1 := ⟨_, rfl⟩
  obtain ⟨g0, hg0⟩ : ∃ g, g = w.heap.size := ⟨_, rfl⟩
  rw [← hg1] at V1 ⊢
  rw [← hg0] at V0 ⊢
  replace hg1 := hid hg1
  replace hg0 := hid hg0
  go_loopw [4] (fun i wr => ∃ k : Nat, ∃ v : Value, k ≤ ks.length ∧ i = .int .i64 k ∧ Hid (wr.heap[g1]? = some (.cells #[.int .i64 p, v] 38)) ∧ Hid (wr.heap[g0]? = some (.cells #[.int .i64 0, .slice none 0 0] 38)) ∧ Hid (OKs wr w0.heap.size wr.heap.size v (ks.take k)) ∧ Hid (Below w.heap.size w wr) ∧ Hid (w0.heap.size ≤ wr.heap.size)) (fun i _ => ks.length - (intOf i).toNat)
  case atStart => exact ⟨0, _, by omega, rfl, V1, V0, hid (OKs.nil _ _ _), BB, hid (Nat.le_refl _)⟩
  case round =>
    obtain ⟨k, vv, hk, rfl, V1, V0, OK, BL, SL⟩ := hrel
    have VG := hid (var_below BL.out V.out)
    have HK := hid (H.out.below BL.out)
    by_cases hlt : k < ks.length
    · obtain ⟨a', ca', e, -, -, hcs⟩ := HK.out.parts
      cases e
      obtain ⟨b, o, u, rfl, q1, q2, q3⟩ := hcs k hlt
      replace H := H
      obtain ⟨nb, hnb⟩ : ∃ m, m = (ks[k]).2.length := ⟨_, rfl⟩
      have N16 := hid hnb.symm
      have nb1 : 1 ≤ nb := by rw [hnb]; exact (L16.out k hlt).1
      have nb2 : nb ≤ 4096 := by rw [hnb]; exact (L16.out k hlt).2
      clear hnb
      obtain ⟨pu, cu, rfl, -, -, -⟩ := q3.parts
      rw [N16.out] at q2 q3
      have RU := hid q3
      obtain ⟨f0, f1, -, -⟩ := var2_facts VG.out
      have LB := hid (show b < g0 from hg0.out ▸ rdk_blk H.out k hlt)
      have LF := hid (show g < g0 from hg0.out ▸ var_lt V.out)
      have L1 := hid (show g1 < w0.heap.size by rw [hg1.out, SZ.out]; omega)
      have L0 := hid (show g0 < w0.heap.size by rw [hg0.out, SZ.out]; omega)
      have LG := hid (Nat.le_of_lt L0.out)
      have SG := hid (Nat.le_trans LG.out SL.out)
      have NE := hid (show g0 ≠ g1 by rw [hg0.out, hg1.out]; omega)
      have G01 := hid (show g0 ≤ g1 by rw [hg0.out, hg1.out]; omega)
      have TK := hid (List.take_succ_eq_append_getElem hlt)
      have I1 := idx_kc b o ks.length cap k hlt
      have k0 : (0 : Int) ≤ (k : Int) := by omega
      have k1 : (k : Int) < (ks.length : Int) := by omega
      clear hcs q3 HK
      go_wp2_with fail
      refine wp_region_held_drew (S := fun w' => Below g0 wr w') (by kernel_rfl) (Below.refl _ _).drew (fun hH => ?_)
      replace V1 := hid (show wr.drew.heap[g1]? = _ from V1.out)
      replace V0 := hid (show wr.drew.heap[g0]? = _ from V0.out)
      replace OK := hid (show OKs wr.drew _ _ _ _ from OK.out)
      replace RU := hid (show Rd wr.drew _ _ from RU.out)
      generalize wr.drew = x at hH V1 V0 OK RU ⊢
      refine wpAnyH_take (i := 0) (v := .pointer (some ⟨g1, 1, none⟩)) (by simp only [List.getElem?_toArray, List.getElem?_cons_zero]; rfl) (by kernel_rfl) (by kernel_rfl) (by kernel_rfl) (by intro _ _ _ h; exact h) (Or.inl ⟨by rfl, fun w hS => by go_simp⟩) hH ?_
      simp only [Act.put, List.setIfInBounds_toArray, List.set_cons_zero, List.set_cons_succ]
      refine wpAnyH_take (i := 2) (v := .pointer (some ⟨g, 0, none⟩)) (by simp only [List.getElem?_toArray, List.getElem?_cons_succ, List.getElem?_cons_zero]; rfl) (by kernel_rfl) (by kernel_rfl) (by kernel_rfl) (by intro _ _ _ h; exact h) (Or.inl ⟨by rfl, fun w hS => by go_simp⟩) hH ?_
      simp only [Act.put, List.setIfInBounds_toArray, List.set_cons_zero, List.set_cons_succ]
      refine wpAnyH_take (i := 3) (v := .pointer (some ⟨g, 0, none⟩)) (by simp only [List.getElem?_toArray, List.getElem?_cons_succ, List.getElem?_cons_zero]; rfl) (by kernel_rfl) (by kernel_rfl) (by kernel_rfl) (by intro _ _ _ h; exact h) (Or.inl ⟨by rfl, fun w hS => by go_simp⟩) hH ?_
      simp only [Act.put, List.setIfInBounds_toArray, List.set_cons_zero, List.set_cons_succ]
      refine wpAnyH_take (i := 4) (v := .pointer (some ⟨g, 1, none⟩)) (by simp only [List.getElem?_toArray, List.getElem?_cons_succ, List.getElem?_cons_zero]; rfl) (by kernel_rfl) (by kernel_rfl) (by kernel_rfl) (by intro _ _ _ h; exact h) (Or.inl ⟨by rfl, fun w hS => by go_simp⟩) hH ?_
      simp only [Act.put, List.setIfInBounds_toArray, List.set_cons_zero, List.set_cons_succ]
      refine wpAnyH_take (i := 5) (v := .slice (some ⟨b, o, none⟩) ks.length cap) (by simp only [List.getElem?_toArray, List.getElem?_cons_succ, List.getElem?_cons_zero]; rfl) (by kernel_rfl) (by kernel_rfl) (by kernel_rfl) (by intro _ _ _ h; exact h) (Or.inl ⟨by rfl, fun w hS => by (have y := cell_low hS f1 LF.out; go_simp)⟩) hH ?_
      simp only [Act.put, List.setIfInBounds_toArray, List.set_cons_zero, List.set_cons_succ]
      refine wpAnyH_take (i := 6) (v := .int .i64 (k : Int)) (by simp only [List.getElem?_toArray, List.getElem?_cons_succ, List.getElem?_cons_zero]; rfl) (by kernel_rfl) (by kernel_rfl) (by kernel_rfl) (by intro _ _ _ h; exact h) (Or.inl ⟨by rfl, fun w hS => by go_simp⟩) hH ?_
      simp only [Act.put, List.setIfInBounds_toArray, List.set_cons_zero, List.set_cons_succ]
      refine wpAnyH_take (i := 7) (v := .pointer (some ⟨b, o + k * 2, none⟩)) (by simp only [List.getElem?_toArray, List.getElem?_cons_succ, List.getElem?_cons_zero]; rfl) (by kernel_rfl) (by kernel_rfl) (by kernel_rfl) (by intro _ _ _ h; exact h) (Or.inl ⟨by rfl, fun w hS => by go_simp⟩) hH ?_
      simp only [Act.put, List.setIfInBounds_toArray, List.set_cons_zero, List.set_cons_succ]
      refine wpAnyH_take (i := 8) (v := .pointer (some ⟨b, o + k * 2, none⟩)) (by simp only [List.getElem?_toArray, List.getElem?_cons_succ, List.getElem?_cons_zero]; rfl) (by kernel_rfl) (by kernel_rfl) (by kernel_rfl) (by intro _ _ _ h; exact h) (Or.inl ⟨by rfl, fun w hS => by go_simp⟩) hH ?_
      simp only [Act.put, List.setIfInBounds_toArray, List.set_cons_zero, List.set_cons_succ]
      refine wpAnyH_take (i := 9) (v := .int .i64 (ks[k]).1) (by simp only [List.getElem?_toArray, List.getElem?_cons_succ, List.getElem?_cons_zero]; rfl) (by kernel_rfl) (by kernel_rfl) (by kernel_rfl) (by intro _ _ _ h; exact h) (Or.inl ⟨by rfl, fun w hS => by (have y := cell_low hS q1 LB.out; go_simp)⟩) hH ?_
      simp only [Act.put, List.setIfInBounds_toArray, List.set_cons_zero, List.set_cons_succ]
      refine wpAnyH_take (i := 10) (v := .pointer (some ⟨g, 0, none⟩)) (by simp only [List.getElem?_toArray, List.getElem?_cons_succ, List.getElem?_cons_zero]; rfl) (by kernel_rfl) (by kernel_rfl) (by kernel_rfl) (by intro _ _ _ h; exact h) (Or.inl ⟨by rfl, fun w hS => by go_simp⟩) hH ?_
      simp only [Act.put, List.setIfInBounds_toArray, List.set_cons_zero, List.set_cons_succ]
      refine wpAnyH_take (i := 11) (v := .pointer (some ⟨g, 0, none⟩)) (by simp only [List.getElem?_toArray, List.getElem?_cons_succ, List.getElem?_cons_zero]; rfl) (by kernel_rfl) (by kernel_rfl) (by kernel_rfl) (by intro _ _ _ h; exact h) (Or.inl ⟨by rfl, fun w hS => by go_simp⟩) hH ?_
      simp only [Act.put, List.setIfInBounds_toArray, List.set_cons_zero, List.set_cons_succ]
      refine wpAnyH_take (i := 12) (v := .pointer (some ⟨g, 1, none⟩)) (by simp only [List.getElem?_toArray, List.getElem?_cons_succ, List.getElem?_cons_zero]; rfl) (by kernel_rfl) (by kernel_rfl) (by kernel_rfl) (by intro _ _ _ h; exact h) (Or.inl ⟨by rfl, fun w hS => by go_simp⟩) hH ?_
      simp only [Act.put, List.setIfInBounds_toArray, List.set_cons_zero, List.set_cons_succ]
      refine wpAnyH_take (i := 13) (v := .slice (some ⟨b, o, none⟩) ks.length cap) (by simp only [List.getElem?_toArray, List.getElem?_cons_succ, List.getElem?_cons_zero]; rfl) (by kernel_rfl) (by kernel_rfl) (by kernel_rfl) (by intro _ _ _ h; exact h) (Or.inl ⟨by rfl, fun w hS => by (have y := cell_low hS f1 LF.out; go_simp)⟩) hH ?_
      simp only [Act.put, List.setIfInBounds_toArray, List.set_cons_zero, List.set_cons_succ]
      refine wpAnyH_take (i := 14) (v := .int .i64 (k : Int)) (by simp only [List.getElem?_toArray, List.getElem?_cons_succ, List.getElem?_cons_zero]; rfl) (by kernel_rfl) (by kernel_rfl) (by kernel_rfl) (by intro _ _ _ h; exact h) (Or.inl ⟨by rfl, fun w hS => by go_simp⟩) hH ?_
      simp only [Act.put, List.setIfInBounds_toArray, List.set_cons_zero, List.set_cons_succ]
      refine wpAnyH_take (i := 15) (v := .pointer (some ⟨b, o + k * 2, none⟩)) (by simp only [List.getElem?_toArray, List.getElem?_cons_succ, List.getElem?_cons_zero]; rfl) (by kernel_rfl) (by kernel_rfl) (by kernel_rfl) (by intro _ _ _ h; exact h) (Or.inl ⟨by rfl, fun w hS => by go_simp⟩) hH ?_
      simp only [Act.put, List.setIfInBounds_toArray, List.set_cons_zero, List.set_cons_succ]
      refine wpAnyH_take (i := 16) (v := .pointer (some ⟨b, o + k * 2 + 1, none⟩)) (by simp only [List.getElem?_toArray, List.getElem?_cons_succ, List.getElem?_cons_zero]; rfl) (by kernel_rfl) (by kernel_rfl) (by kernel_rfl) (by intro _ _ _ h; exact h) (Or.inl ⟨by rfl, fun w hS => by go_simp⟩) hH ?_
      simp only [Act.put, List.setIfInBounds_toArray, List.set_cons_zero, List.set_cons_succ]
      refine wpAnyH_take (i := 17) (v := .slice pu nb cu) (by simp only [List.getElem?_toArray, List.getElem?_cons_succ, List.getElem?_cons_zero]; rfl) (by kernel_rfl) (by kernel_rfl) (by kernel_rfl) (by intro _ _ _ h; exact h) (Or.inl ⟨by rfl, fun w hS => by (have y := cell_low hS q2 LB.out; go_simp)⟩) hH ?_
      simp only [Act.put, List.setIfInBounds_toArray, List.set_cons_zero, List.set_cons_succ]
      refine wpAnyH_ready (rs := [1, 18]) (by kernel_rfl) (by simp) ?_
      refine AllReadyH.cons (by simp only [List.getElem?_toArray, List.getElem?_cons_succ, List.getElem?_cons_zero]; rfl) (fun K hK => ?_) ?_
      · obtain ⟨q_0, q_1, -, -⟩ := var2_facts V1.out
        go_simp
        refine hK.out _ _ hH (fun hH => ?_)
        clear hK K q_0 q_1
        try simp only [Act.put, List.setIfInBounds_toArray, List.set_cons_zero, List.set_cons_succ]
        refine wpAnyH_ready (rs := [18]) (by kernel_rfl) (by simp) ?_
        refine AllReadyH.cons (by simp only [List.getElem?_toArray, List.getElem?_cons_succ, List.getElem?_cons_zero]; rfl) (fun K hK => ?_) AllReadyH.nil
        go_simp
        refine (copyR _ (ks[k]).2 nb _ RU.out N16.out (by omega) (by omega)).mono ?_
        rintro e x18 ⟨vc, rfl, hO, hM⟩
        obtain ⟨pc, kc, rfl, -, -, -⟩ := hO.rd.parts
        have SB := hid hH.size
        refine hK.out _ _ (hH.trans (hM.mono (Nat.le_trans SG.out hH.size))) (fun hH => ?_)
        clear hK K
        replace V1 := hid (var_below hM V1.out)
        replace V0 := hid (var_below hM V0.out)
        replace OK := hid (OK.out.below hM)
        replace RU := hid (RU.out.below hM)
        have OU := hid ((OB.of hO.x).mono SB.out (Nat.le_refl _))
        clear hM SB
        refine wpAnyH_take (i := 19) (v := .agg #[.int .i64 (ks[k]).1, .slice pc (ks[k]).2.length kc]) (by simp only [List.getElem?_toArray, List.getElem?_cons_succ, List.getElem?_cons_zero]; rfl) (by kernel_rfl) (by kernel_rfl) (by kernel_rfl) (by intro _ _ _ h; exact h) (Or.inl ⟨by rfl, fun w hS => by go_simp⟩) hH ?_
        simp only [Act.put, List.setIfInBounds_toArray, List.set_cons_zero, List.set_cons_succ]
        refine wpAnyH_ready (rs := [20]) (by kernel_rfl) (by simp) ?_
        refine AllReadyH.cons (by simp only [List.getElem?_toArray, List.getElem?_cons_succ, List.getElem?_cons_zero]; rfl) (fun K hK => ?_) AllReadyH.nil
        go_simp
        have hM := below_alloc1 x18 (.cells #[.int .i64 (ks[k]).1, .slice pc (ks[k]).2.length kc] 40)
        replace V1 := hid (var_below hM V1.out)
        replace V0 := hid (var_below hM V0.out)
        replace OK := hid (OK.out.below hM)
        replace RU := hid (RU.out.below hM)
        replace OU := hid (OU.out.below hM)
        have VX := hid (heap_alloc_new x18 (.cells #[.int .i64 (ks[k]).1, .slice pc (ks[k]).2.length kc] 40))
        refine hK.out _ _ (hH.alloc (Nat.le_trans SG.out hH.size) _) (fun hH => ?_)
        clear hK K hM
        generalize x18.alloc (.cells #[.int .i64 (ks[k]).1, .slice pc (ks[k]).2.length kc] 40) = x20 at *
        refine wpAnyH_ready (rs := [21]) (by kernel_rfl) (by simp) ?_
        refine AllReadyH.cons (by simp only [List.getElem?_toArray, List.getElem?_cons_succ, List.getElem?_cons_zero]; rfl) (fun K hK => ?_) AllReadyH.nil
        obtain ⟨c0, c1, -, -⟩ := var2_facts VX.out
        refine step_appK (by rfl) _ _ (by rfl) _ _ (ks.take k) w0.heap.size wr.heap.size x18.heap.size 1 (ks[k]).1 (ks[k]).2 (by rfl) (by rfl) OK.out hH.size SL.out c0 c1 rfl (OB.of OU.out.1) (by rw [List.length_take]; omega) ?_
        intro g2 cap2 x21 hO hG
        rw [List.length_take_of_le hk] at hO ⊢
        have OK2 := hid hO
        have V12 := hid (var_grown hG V1.out (fun e => absurd (OK.out.row (Nat.le_refl _) _ e.symm) (Nat.not_le_of_lt L1.out)))
        have V02 := hid (var_grown hG V0.out (fun e => absurd (OK.out.row (Nat.le_refl _) _ e.symm) (Nat.not_le_of_lt L0.out)))
        refine hK.out _ _ (hH.grown hG (Nat.le_trans SG.out hH.size) (OK.out.row LG.out)) (fun hH => ?_)
        clear hK K hO hG c0 c1 VX OK OU V1 V0
        refine wpAnyH_take (i := 22) (v := .pointer (some ⟨g1, 1, none⟩)) (by simp only [List.getElem?_toArray, List.getElem?_cons_succ, List.getElem?_cons_zero]; rfl) (by kernel_rfl) (by kernel_rfl) (by kernel_rfl) (by intro _ _ _ h; exact h) (Or.inl ⟨by rfl, fun w hS => by go_simp⟩) hH ?_
        simp only [Act.put, List.setIfInBounds_toArray, List.set_cons_zero, List.set_cons_succ]
        refine wpAnyH_ready (rs := [23]) (by kernel_rfl) (by simp) ?_
        refine AllReadyH.cons (by simp only [List.getElem?_toArray, List.getElem?_cons_succ, List.getElem?_cons_zero]; rfl) (fun K hK => ?_) AllReadyH.nil
        obtain ⟨e0, e1, e2, e3⟩ := var2_facts V12.out
        go_simp
        have V13 := hid (cellS1 (y' := .slice (some ⟨g2, 0, none⟩) (k + 1) cap2) V12.out)
        have V03 := hid (var_other1 V02.out ⟨g1, 1, none⟩ (.slice (some ⟨g2, 0, none⟩) (k + 1) cap2) NE.out)
        have OK3 := hid (OK2.out.low ⟨g1, 1, none⟩ L1.out (.slice (some ⟨g2, 0, none⟩) (k + 1) cap2))
        refine hK.out _ _ (hH.setCell (p := ⟨g1, 1, none⟩) G01.out _) (fun hH => ?_)
        clear hK K e0 e1 e2 e3 V12 V02 OK2
        refine wpAnyH_done (by kernel_rfl) ?_ _
        have BN := hid (BL.out.trans (hg0.out ▸ hH))
        have SN := hid (Nat.le_trans SL.out hH.size)
        clear hH
        go_wp2
        go_roundw
        case rel => exact ⟨k + 1, _, hlt, by go_num, V13, V03, hid (by rw [TK.out]; exact OK3.out.mono (Nat.le_refl _) (Nat.le_of_eq (size_set1 _ _ _).symm)), BN, SN⟩
        case measure => simp [intOf]; omega
      refine AllReadyH.cons (by simp only [List.getElem?_toArray, List.getElem?_cons_succ, List.getElem?_cons_zero]; rfl) (fun K hK => ?_) ?_
      · go_simp
        refine (copyR _ (ks[k]).2 nb _ RU.out N16.out (by omega) (by omega)).mono ?_
        rintro e x18 ⟨vc, rfl, hO, hM⟩
        obtain ⟨pc, kc, rfl, -, -, -⟩ := hO.rd.parts
        have SB := hid hH.size
        refine hK.out _ _ (hH.trans (hM.mono (Nat.le_trans SG.out hH.size))) (fun hH => ?_)
        clear hK K
        replace V1 := hid (var_below hM V1.out)
        replace V0 := hid (var_below hM V0.out)
        replace OK := hid (OK.out.below hM)
        replace RU := hid (RU.out.below hM)
        have OU := hid ((OB.of hO.x).mono SB.out (Nat.le_refl _))
        clear hM SB
        refine wpAnyH_take (i := 19) (v := .agg #[.int .i64 (ks[k]).1, .slice pc (ks[k]).2.length kc]) (by simp only [List.getElem?_toArray, List.getElem?_cons_succ, List.getElem?_cons_zero]; rfl) (by kernel_rfl) (by kernel_rfl) (by kernel_rfl) (by intro _ _ _ h; exact h) (Or.inl ⟨by rfl, fun w hS => by go_simp⟩) hH ?_
        simp only [Act.put, List.setIfInBounds_toArray, List.set_cons_zero, List.set_cons_succ]
        refine wpAnyH_ready (rs := [1, 20]) (by kernel_rfl) (by simp) ?_
        refine AllReadyH.cons (by simp only [List.getElem?_toArray, List.getElem?_cons_succ, List.getElem?_cons_zero]; rfl) (fun K hK => ?_) ?_
        · obtain ⟨q_0, q_1, -, -⟩ := var2_facts V1.out
          go_simp
          refine hK.out _ _ hH (fun hH => ?_)
          clear hK K q_0 q_1
          try simp only [Act.put, List.setIfInBounds_toArray, List.set_cons_zero, List.set_cons_succ]
          refine wpAnyH_ready (rs := [20]) (by kernel_rfl) (by simp) ?_
          refine AllReadyH.cons (by simp only [List.getElem?_toArray, List.getElem?_cons_succ, List.getElem?_cons_zero]; rfl) (fun K hK => ?_) AllReadyH.nil
          go_simp
          have hM := below_alloc1 x18 (.cells #[.int .i64 (ks[k]).1, .slice pc (ks[k]).2.length kc] 40)
          replace V1 := hid (var_below hM V1.out)
          replace V0 := hid (var_below hM V0.out)
          replace OK := hid (OK.out.below hM)
          replace RU := hid (RU.out.below hM)
          replace OU := hid (OU.out.below hM)
          have VX := hid (heap_alloc_new x18 (.cells #[.int .i64 (ks[k]).1, .slice pc (ks[k]).2.length kc] 40))
          refine hK.out _ _ (hH.alloc (Nat.le_trans SG.out hH.size) _) (fun hH => ?_)
          clear hK K hM
          generalize x18.alloc (.cells #[.int .i64 (ks[k]).1, .slice pc (ks[k]).2.length kc] 40) = x20 at *
          refine wpAnyH_ready (rs := [21]) (by kernel_rfl) (by simp) ?_
          refine AllReadyH.cons (by simp only [List.getElem?_toArray, List.getElem?_cons_succ, List.getElem?_cons_zero]; rfl) (fun K hK => ?_) AllReadyH.nil
          obtain ⟨c0, c1, -, -⟩ := var2_facts VX.out
          refine step_appK (by rfl) _ _ (by rfl) _ _ (ks.take k) w0.heap.size wr.heap.size x18.heap.size 1 (ks[k]).1 (ks[k]).2 (by rfl) (by rfl) OK.out hH.size SL.out c0 c1 rfl (OB.of OU.out.1) (by rw [List.length_take]; omega) ?_
          intro g2 cap2 x21 hO hG
          rw [List.length_take_of_le hk] at hO ⊢
          have OK2 := hid hO
          have V12 := hid (var_grown hG V1.out (fun e => absurd (OK.out.row (Nat.le_refl _) _ e.symm) (Nat.not_le_of_lt L1.out)))
          have V02 := hid (var_grown hG V0.out (fun e => absurd (OK.out.row (Nat.le_refl _) _ e.symm) (Nat.not_le_of_lt L0.out)))
          refine hK.out _ _ (hH.grown hG (Nat.le_trans SG.out hH.size) (OK.out.row LG.out)) (fun hH => ?_)
          clear hK K hO hG c0 c1 VX OK OU V1 V0
          refine wpAnyH_take (i := 22) (v := .pointer (some ⟨g1, 1, none⟩)) (by simp only [List.getElem?_toArray, List.getElem?_cons_succ, List.getElem?_cons_zero]; rfl) (by kernel_rfl) (by kernel_rfl) (by kernel_rfl) (by intro _ _ _ h; exact h) (Or.inl ⟨by rfl, fun w hS => by go_simp⟩) hH ?_
          simp only [Act.put, List.setIfInBounds_toArray, List.set_cons_zero, List.set_cons_succ]
          refine wpAnyH_ready (rs := [23]) (by kernel_rfl) (by simp) ?_
          refine AllReadyH.cons (by simp only [List.getElem?_toArray, List.getElem?_cons_succ, List.getElem?_cons_zero]; rfl) (fun K hK => ?_) AllReadyH.nil
          obtain ⟨e0, e1, e2, e3⟩ := var2_facts V12.out
          go_simp
          have V13 := hid (cellS1 (y' := .slice (some ⟨g2, 0, none⟩) (k + 1) cap2) V12.out)
          have V03 := hid (var_other1 V02.out ⟨g1, 1, none⟩ (.slice (some ⟨g2, 0, none⟩) (k + 1) cap2) NE.out)
          have OK3 := hid (OK2.out.low ⟨g1, 1, none⟩ L1.out (.slice (some ⟨g2, 0, none⟩) (k + 1) cap2))
          refine hK.out _ _ (hH.setCell (p := ⟨g1, 1, none⟩) G01.out _) (fun hH => ?_)
          clear hK K e0 e1 e2 e3 V12 V02 OK2
          refine wpAnyH_done (by kernel_rfl) ?_ _
          have BN := hid (BL.out.trans (hg0.out ▸ hH))
          have SN := hid (Nat.le_trans SL.out hH.size)
          clear hH
          go_wp2
          go_roundw
          case rel => exact ⟨k + 1, _, hlt, by go_num, V13, V03, hid (by rw [TK.out]; exact OK3.out.mono (Nat.le_refl _) (Nat.le_of_eq (size_set1 _ _ _).symm)), BN, SN⟩
          case measure => simp [intOf]; omega
        refine AllReadyH.cons (by simp only [List.getElem?_toArray, List.getElem?_cons_succ, List.getElem?_cons_zero]; rfl) (fun K hK => ?_) ?_
        · go_simp
          have hM := below_alloc1 x18 (.cells #[.int .i64 (ks[k]).1, .slice pc (ks[k]).2.length kc] 40)
          replace V1 := hid (var_below hM V1.out)
          replace V0 := hid (var_below hM V0.out)
          replace OK := hid (OK.out.below hM)
          replace RU := hid (RU.out.below hM)
          replace OU := hid (OU.out.below hM)
          have VX := hid (heap_alloc_new x18 (.cells #[.int .i64 (ks[k]).1, .slice pc (ks[k]).2.length kc] 40))
          refine hK.out _ _ (hH.alloc (Nat.le_trans SG.out hH.size) _) (fun hH => ?_)
          clear hK K hM
          generalize x18.alloc (.cells #[.int .i64 (ks[k]).1, .slice pc (ks[k]).2.length kc] 40) = x20 at *
          refine wpAnyH_ready (rs := [1]) (by kernel_rfl) (by simp) ?_
          refine AllReadyH.cons (by simp only [List.getElem?_toArray, List.getElem?_cons_succ, List.getElem?_cons_zero]; rfl) (fun K hK => ?_) AllReadyH.nil
          obtain ⟨q_0, q_1, -, -⟩ := var2_facts V1.out
          go_simp
          refine hK.out _ _ hH (fun hH => ?_)
          clear hK K q_0 q_1
          try simp only [Act.put, List.setIfInBounds_toArray, List.set_cons_zero, List.set_cons_succ]
          refine wpAnyH_ready (rs := [21]) (by kernel_rfl) (by simp) ?_
          refine AllReadyH.cons (by simp only [List.getElem?_toArray, List.getElem?_cons_succ, List.getElem?_cons_zero]; rfl) (fun K hK => ?_) AllReadyH.nil
          obtain ⟨c0, c1, -, -⟩ := var2_facts VX.out
          refine step_appK (by rfl) _ _ (by rfl) _ _ (ks.take k) w0.heap.size wr.heap.size x18.heap.size 1 (ks[k]).1 (ks[k]).2 (by rfl) (by rfl) OK.out hH.size SL.out c0 c1 rfl (OB.of OU.out.1) (by rw [List.length_take]; omega) ?_
          intro g2 cap2 x21 hO hG
          rw [List.length_take_of_le hk] at hO ⊢
          have OK2 := hid hO
          have V12 := hid (var_grown hG V1.out (fun e => absurd (OK.out.row (Nat.le_refl _) _ e.symm) (Nat.not_le_of_lt L1.out)))
          have V02 := hid (var_grown hG V0.out (fun e => absurd (OK.out.row (Nat.le_refl _) _ e.symm) (Nat.not_le_of_lt L0.out)))
          refine hK.out _ _ (hH.grown hG (Nat.le_trans SG.out hH.size) (OK.out.row LG.out)) (fun hH => ?_)
          clear hK K hO hG c0 c1 VX OK OU V1 V0
          refine wpAnyH_take (i := 22) (v := .pointer (some ⟨g1, 1, none⟩)) (by simp only [List.getElem?_toArray, List.getElem?_cons_succ, List.getElem?_cons_zero]; rfl) (by kernel_rfl) (by kernel_rfl) (by kernel_rfl) (by intro _ _ _ h; exact h) (Or.inl ⟨by rfl, fun w hS => by go_simp⟩) hH ?_
          simp only [Act.put, List.setIfInBounds_toArray, List.set_cons_zero, List.set_cons_succ]
          refine wpAnyH_ready (rs := [23]) (by kernel_rfl) (by simp) ?_
          refine AllReadyH.cons (by simp only [List.getElem?_toArray, List.getElem?_cons_succ, List.getElem?_cons_zero]; rfl) (fun K hK => ?_) AllReadyH.nil
          obtain ⟨e0, e1, e2, e3⟩ := var2_facts V12.out
          go_simp
          have V13 := hid (cellS1 (y' := .slice (some ⟨g2, 0, none⟩) (k + 1) cap2) V12.out)
          have V03 := hid (var_other1 V02.out ⟨g1, 1, none⟩ (.slice (some ⟨g2, 0, none⟩) (k + 1) cap2) NE.out)
          have OK3 := hid (OK2.out.low ⟨g1, 1, none⟩ L1.out (.slice (some ⟨g2, 0, none⟩) (k + 1) cap2))
          refine hK.out _ _ (hH.setCell (p := ⟨g1, 1, none⟩) G01.out _) (fun hH => ?_)
          clear hK K e0 e1 e2 e3 V12 V02 OK2
          refine wpAnyH_done (by kernel_rfl) ?_ _
          have BN := hid (BL.out.trans (hg0.out ▸ hH))
          have SN := hid (Nat.le_trans SL.out hH.size)
          clear hH
          go_wp2
          go_roundw
          case rel => exact ⟨k + 1, _, hlt, by go_num, V13, V03, hid (by rw [TK.out]; exact OK3.out.mono (Nat.le_refl _) (Nat.le_of_eq (size_set1 _ _ _).symm)), BN, SN⟩
          case measure => simp [intOf]; omega
        exact AllReadyH.nil
      exact AllReadyH.nil
    · have hke : k = ks.length := by omega
      subst hke
      rw [List.take_of_length_le (Nat.le_refl _)] at OK
      have L1 := hid (show g1 < w0.heap.size by rw [hg1.out, SZ.out]; omega)
      have L0 := hid (show g0 < w0.heap.size by rw [hg0.out, SZ.out]; omega)
      obtain ⟨pv, cv, rfl, -, -, -⟩ := OK.out.rd.parts
      obtain ⟨f0, f1, -, -⟩ := var2_facts VG.out
      obtain ⟨e0, e1, -, -⟩ := var2_facts V1.out
      obtain ⟨d0, d1, d2, d3⟩ := var2_facts V0.out
      obtain ⟨n, hn⟩ : ∃ n, n = ks.length := ⟨_, rfl⟩
      have OKF := hid (show OKs ((wr.setCell ⟨g0, 0, none⟩ (.int .i64 p)).setCell ⟨g0, 1, none⟩ (.slice pv ks.length cv)) w.heap.size ((wr.setCell ⟨g0, 0, none⟩ (.int .i64 p)).setCell ⟨g0, 1, none⟩ (.slice pv ks.length cv)).heap.size (.slice pv ks.length cv) ks from ((OK.out.low ⟨g0, 0, none⟩ L0.out _).low ⟨g0, 1, none⟩ L0.out _).mono (by rw [SZ.out]; omega) (by rw [size_set1, size_set1]; exact Nat.le_refl _))
      rw [← hn] at OKF e1 f1 ⊢
      have hset := hid (var2_set (x' := .int .i64 p) (y' := .slice pv n cv) V0.out)
      have hbel := hid (below_set2 (x := .int .i64 p) (y := .slice pv n cv) (g := g0) BL.out (Nat.le_of_eq hg0.out.symm))
      replace hn := hid hn
      go_wp2
      exact bodyPost_ret (v := .agg #[.int .i64 p, .slice pv n cv]) (results_cell_row rfl _ _ g0 38 _ _ _ rfl hset.out Try.underlying38 rfl (by kernel_rfl)) rfl ⟨_, rfl, OKF.out, hbel.out⟩
end Go.Proofs.Ytbfdbicddmffnab.W

namespace Go.Proofs.Ytbfdbicddmffnab.W
open Go.ChangeShapes Go.WideShapes Go.ChangeAt Go.RowKit
open Go.Proofs.Ytbfdbicddmffnab.M

theorem fk_grownH {w w' : World} {lo hi X g : Nat} {v : Value} {ks : List (Int × List Nat)} (h : FK w lo hi X v ks) (hG : w.grownBy w' (some g)) (hg : hi ≤ g) (hs : hi ≤ w.heap.size) : FK w' lo hi X v ks := h.go fun b h1 h2 _ => hG.block b (by omega) (fun e => by have := Option.some.inj e; omega)
set_option maxHeartbeats 8000000 in
set_option maxRecDepth 100000 in
theorem drSr (v : Value) (l : List Nat) (w : World) (h : Rd w v l) (y : Byt l) (hl : l.length ≤ 1048576) :
    Calls Try.prog 41 #[v] w fun e w' => ∃ (pa pb : Int) (ua ub : Value) (ks ms : List (Int × List Nat)), e = .returned (.tuple #[.agg #[.int .i64 pa, ua], .agg #[.int .i64 pb, ub]]) ∧ RdK w' ua ks ∧ RdK w' ub ms ∧ ks.length ≤ 6 ∧ Below w.heap.size w w' := by
  have RC := hid h
  obtain ⟨q, cap, rfl, -, -, -⟩ := h.parts
  clear h
  have VA := hid (heap_alloc2_old w (.cells #[.int .i64 0, .slice none 0 0] 38) (.cells #[.int .i64 0, .slice none 0 0] 38))
  have VB := hid (heap_alloc2_new w (.cells #[.int .i64 0, .slice none 0 0] 38) (.cells #[.int .i64 0, .slice none 0 0] 38))
  have B0 := hid (below_alloc2 w (.cells #[.int .i64 0, .slice none 0 0] 38) (.cells #[.int .i64 0, .slice none 0 0] 38))
  go_enter Try.func41, Try.ntmps41
  go_wp2_with fail
  generalize (w.alloc (.cells #[.int .i64 0, .slice none 0 0] 38)).alloc (.cells #[.int .i64 0, .slice none 0 0] 38) = x0 at *
  obtain ⟨gb, hgb⟩ : ∃ g, g = w.heap.size + 1 := ⟨_, rfl⟩
  rw [← hgb] at VB ⊢
  obtain ⟨ga, hga⟩ : ∃ g, g = w.heap.size := ⟨_, rfl⟩
  rw [← hga] at VA ⊢
  have GG := hid (show w.heap.size ≤ ga ∧ w.heap.size ≤ gb ∧ ga ≠ gb by omega)
  clear hga hgb
  refine (source _ l x0 (RC.out.below B0.out) y).mono ?_
  rintro e x1 ⟨rfl, hS⟩
  have S := hid hS
  have LX := hid (show ga < x0.heap.size ∧ gb < x0.heap.size from ⟨var_lt VA.out, var_lt VB.out⟩)
  replace VA := hid (var_below hS.bel VA.out)
  replace VB := hid (var_below hS.bel VB.out)
  clear hS
  obtain ⟨gs, hgs⟩ : ∃ q, q = x0.heap.size := ⟨_, rfl⟩
  rw [← hgs] at S LX ⊢
  have NVA := hid (show ga ≠ gs by have := LX.out.1; omega)
  have NVB := hid (show gb ≠ gs by have := LX.out.2; omega)
  have GS0 := hid hgs
  clear hgs
  go_wp2_with fail
  refine (l4d x0 x1 gs _ l 0 S.out (by omega) hl).mono ?_
  rintro e x2 ⟨pr, u, ks, t1, rfl, hO, hKL, hKB, hpr, htt, hS, hG⟩
  obtain ⟨pu, cu, rfl, -, -, -⟩ := hO.rd.parts
  have hF := fk_oks hO (Nat.le_refl _)
  have hSZ := hO.shape (by omega)
  have GV := hid (show gs < x1.heap.size from var_lt S.out.cells)
  obtain ⟨N, hN⟩ : ∃ q, q = x1.heap.size + 2 := ⟨_, rfl⟩
  obtain ⟨gw, hgw⟩ : ∃ q, q = x2.heap.size := ⟨_, rfl⟩
  rw [← hN, ← hgw] at hF
  have LQ := hid (show ga < N ∧ gb < N ∧ gs < N ∧ N ≤ gw by obtain ⟨_, _, _, _, _⟩ := hSZ; have := LX.out; have := GV.out; have := hG.size; omega)
  have FX := hid hF
  have KX := hid (show ks.length ≤ 6 ∧ KOk ks from ⟨by omega, hKB⟩)
  replace VA := hid (var_grown hG VA.out (fun e => by have := Option.some.inj e; have := NVA.out; omega))
  replace VB := hid (var_grown hG VB.out (fun e => by have := Option.some.inj e; have := NVB.out; omega))
  replace S := hid hS
  have HH := hid hgw
  clear hF hO hSZ hKL hKB hpr hS hG hN GV hgw
  have VW := hid (heap_alloc_new x2 (.cells #[.int .i64 pr, .slice pu ks.length cu] 38))
  have hA := below_alloc1 x2 (.cells #[.int .i64 pr, .slice pu ks.length cu] 38)
  have HM := hid (show x2.heap.size < (x2.alloc (.cells #[.int .i64 pr, .slice pu ks.length cu] 38)).heap.size by simp)
  replace S := hid (S.out.later hA)
  replace FX := hid (FX.out.below hA (Nat.le_of_eq HH.out))
  replace VA := hid (var_below hA VA.out)
  replace VB := hid (var_below hA VB.out)
  clear hA
  obtain ⟨y0, y1, -, -⟩ := var2_facts VW.out
  go_upto_region 3 with fail
  clear y0 y1
  generalize x2.alloc (.cells #[.int .i64 pr, .slice pu ks.length cu] 38) = x3 at *
  rw [← HH.out] at VW HM ⊢
  have NVW := hid (show gw ≠ gs by have := LQ.out; omega)
  clear HH
  go_wp2_with fail
  refine (chance x0 x3 gs _ l _ 2 S.out (by omega) (by omega) hl).mono ?_
  rintro e x4 ⟨r, rfl, hS, hG⟩
  replace S := hid hS
  replace FX := hid (FX.out.grownG hG LQ.out.2.2.1 (Nat.le_of_lt HM.out))
  replace VA := hid (var_grown hG VA.out (fun e => by have := Option.some.inj e; have := NVA.out; omega))
  replace VB := hid (var_grown hG VB.out (fun e => by have := Option.some.inj e; have := NVB.out; omega))
  replace VW := hid (var_grown hG VW.out (fun e => by have := Option.some.inj e; have := NVW.out; omega))
  replace HM := hid (Nat.lt_of_lt_of_le HM.out hG.size)
  clear hS hG
  cases r
  · skip
    go_wp2_with fail
    obtain ⟨y0, y1, -, -⟩ := var2_facts VW.out
    refine wp_region_held_drew (S := fun w' => w'.cell? ⟨gw, 0, none⟩ = some (.int .i64 pr) ∧ w'.cell? ⟨gw, 1, none⟩ = some (.slice pu ks.length cu)) (by kernel_rfl) ⟨y0, y1⟩ (fun hH => ?_)
    have VAd := hid (show x4.drew.heap[ga]? = some (.cells #[.int .i64 0, .slice none 0 0] 38) from VA.out)
    have VBd := hid (show x4.drew.heap[gb]? = some (.cells #[.int .i64 0, .slice none 0 0] 38) from VB.out)
    have VWd := hid (show x4.drew.heap[gw]? = some (.cells #[.int .i64 pr, .slice pu ks.length cu] 38) from VW.out)
    have FXd := hid (show FK x4.drew N gw gw (.slice pu ks.length cu) ks from FX.out.go (fun _ _ _ _ => rfl))
    have BSd := hid (show Below x0.heap.size x0 x4.drew from S.out.bel.drew)
    have HMd := hid (show gw < x4.drew.heap.size from HM.out)
    clear VA VB VW FX S HM y0 y1
    generalize x4.drew = x at *
    have VA := VAd
    have VB := VBd
    have VW := VWd
    have FX := FXd
    have BS := BSd
    have HM := HMd
    clear VAd VBd VWd FXd BSd HMd
    refine wpAnyH_take (i := 0) (v := .agg #[.int .i64 pr, .slice pu ks.length cu]) (by simp only [List.getElem?_toArray, List.getElem?_cons_zero]; rfl) (by kernel_rfl) (by kernel_rfl) (by kernel_rfl) (by intro _ _ _ h; exact h) (Or.inl ⟨by rfl, fun w hS => by (have y0 := hS.1; have y1 := hS.2; go_simp)⟩) hH ?_
    simp only [Act.put, List.setIfInBounds_toArray, List.set_cons_zero, List.set_cons_succ]
    refine wpAnyH_take (i := 1) (v := .slice q l.length cap) (by simp only [List.getElem?_toArray, List.getElem?_cons_succ, List.getElem?_cons_zero]; rfl) (by kernel_rfl) (by kernel_rfl) (by kernel_rfl) (by intro _ _ _ h; exact h) (Or.inl ⟨by rfl, fun w hS => by go_simp⟩) hH ?_
    simp only [Act.put, List.setIfInBounds_toArray, List.set_cons_zero, List.set_cons_succ]
    refine wpAnyH_ready (rs := [2]) (by kernel_rfl) (by simp) ?_
    refine AllReadyH.cons (by simp only [List.getElem?_toArray, List.getElem?_cons_succ, List.getElem?_cons_zero]; rfl) (fun K hK => ?_) AllReadyH.nil
    go_simp
    have RC2 := hid ((RC.out.below B0.out).below BS.out)
    refine (source _ l x RC2.out y).mono ?_
    rintro e xa ⟨rfl, hS⟩
    have S2 := hid hS
    have BX := hid ((B0.out.trans (BS.out.mono B0.out.size)).trans (hS.bel.mono (by have := B0.out.size; have := BS.out.size; omega)))
    replace FX := hid (FX.out.below hS.bel (Nat.le_of_lt HM.out))
    replace VA := hid (var_below hS.bel VA.out)
    replace VB := hid (var_below hS.bel VB.out)
    replace VW := hid (var_below hS.bel VW.out)
    refine hK.out _ _ ⟨(var2_facts VW.out).1, (var2_facts VW.out).2.1⟩ (fun hH => ?_)
    clear hK K hS BS RC2
    obtain ⟨gt, hgt⟩ : ∃ g, g = x.heap.size := ⟨_, rfl⟩
    rw [← hgt] at S2 HM ⊢
    have HGT := hid (show w.heap.size ≤ gt by have := GG.out.1; have := LQ.out; have := HM.out; omega)
    clear hgt
    refine wpAnyH_ready (rs := [3]) (by kernel_rfl) (by simp) ?_
    refine AllReadyH.cons (by simp only [List.getElem?_toArray, List.getElem?_cons_succ, List.getElem?_cons_zero]; rfl) (fun K hK => ?_) AllReadyH.nil
    go_simp
    refine (l4b x xa gt _ l 0 S2.out (by omega) hl).mono ?_
    rintro e xb ⟨pr2, u2, ms, t2, rfl, hO, -, -, -, hS, hG⟩
    obtain ⟨p2, c2, rfl, -, -, -⟩ := hO.rd.parts
    obtain ⟨N2, hN2⟩ : ∃ z, z = xa.heap.size := ⟨_, rfl⟩
    rw [← hN2] at hO
    have LN2 := hid (show gw < N2 by have := HM.out; have := var_lt S2.out.cells; omega)
    have FY := hid hO
    have HA := hid (show gw ≤ xa.heap.size by have := HM.out; have := var_lt S2.out.cells; omega)
    replace FX := hid (fk_grownH FX.out hG (Nat.le_of_lt HM.out) HA.out)
    replace VA := hid (var_grown hG VA.out (fun e => by have := Option.some.inj e; have := HM.out; have := LQ.out; omega))
    replace VB := hid (var_grown hG VB.out (fun e => by have := Option.some.inj e; have := HM.out; have := LQ.out; omega))
    replace VW := hid (var_grown hG VW.out (fun e => by have := Option.some.inj e; have := HM.out; have := LQ.out; omega))
    replace BX := hid (BX.out.grown hG BX.out.size (fun b e => by cases e; exact HGT.out))
    refine hK.out _ _ ⟨(var2_facts VW.out).1, (var2_facts VW.out).2.1⟩ (fun hH => ?_)
    clear hK K hO hS hG hN2
    refine wpAnyH_ready (rs := [4]) (by kernel_rfl) (by simp) ?_
    refine AllReadyH.cons (by simp only [List.getElem?_toArray, List.getElem?_cons_succ, List.getElem?_cons_zero]; rfl) (fun K hK => ?_) AllReadyH.nil
    obtain ⟨q0, q1, z0, z1⟩ := var2_facts VA.out
    go_simp
    have VE := hid (var2_set (x' := .int .i64 pr) (y' := .slice pu ks.length cu) VA.out)
    have VB2 := hid (set2_otherR (x := .int .i64 pr) (y := .slice pu ks.length cu) (show gb ≠ ga by have := GG.out; omega) VB.out)
    have VW2 := hid (set2_otherR (x := .int .i64 pr) (y := .slice pu ks.length cu) (show gw ≠ ga by have := LQ.out; omega) VW.out)
    have FX2 := hid ((FX.out.set (i := 0) (x := .int .i64 pr) (.inl (show ga < N by have := LQ.out; omega))).set (i := 1) (x := .slice pu ks.length cu) (.inl (show ga < N by have := LQ.out; omega)))
    have FY2 := hid ((FY.out.set (i := 0) (x := .int .i64 pr) (.inl (show ga < N2 by have := LN2.out; have := LQ.out; omega))).set (i := 1) (x := .slice pu ks.length cu) (.inl (show ga < N2 by have := LN2.out; have := LQ.out; omega)))
    have BX2 := hid (wbelR2 (x := .int .i64 pr) (y := .slice pu ks.length cu) BX.out (show w.heap.size ≤ ga by have := GG.out; omega))
    refine hK.out _ _ ⟨(var2_facts VW2.out).1, (var2_facts VW2.out).2.1⟩ (fun hH => ?_)
    clear hK K q0 q1 z0 z1 VW FX FY BX VA VB
    have VB := VB2
    have VW := VW2
    have FX := FX2
    have FY := FY2
    have BX := BX2
    have VA := VE
    clear VE VB2 VW2 FX2 FY2 BX2
    generalize (xb.setCell ⟨ga, 0, none⟩ (.int .i64 pr)).setCell ⟨ga, 1, none⟩ (.slice pu ks.length cu) = xy at *
    refine wpAnyH_ready (rs := [5]) (by kernel_rfl) (by simp) ?_
    refine AllReadyH.cons (by simp only [List.getElem?_toArray, List.getElem?_cons_succ, List.getElem?_cons_zero]; rfl) (fun K hK => ?_) AllReadyH.nil
    obtain ⟨q0, q1, z0, z1⟩ := var2_facts VB.out
    go_simp
    have VE := hid (var2_set (x' := .int .i64 pr2) (y' := .slice p2 ms.length c2) VB.out)
    have VA2 := hid (set2_otherR (x := .int .i64 pr2) (y := .slice p2 ms.length c2) (show ga ≠ gb by have := GG.out; omega) VA.out)
    have VW2 := hid (set2_otherR (x := .int .i64 pr2) (y := .slice p2 ms.length c2) (show gw ≠ gb by have := LQ.out; omega) VW.out)
    have FX2 := hid ((FX.out.set (i := 0) (x := .int .i64 pr2) (.inl (show gb < N by have := LQ.out; omega))).set (i := 1) (x := .slice p2 ms.length c2) (.inl (show gb < N by have := LQ.out; omega)))
    have FY2 := hid ((FY.out.set (i := 0) (x := .int .i64 pr2) (.inl (show gb < N2 by have := LN2.out; have := LQ.out; omega))).set (i := 1) (x := .slice p2 ms.length c2) (.inl (show gb < N2 by have := LN2.out; have := LQ.out; omega)))
    have BX2 := hid (wbelR2 (x := .int .i64 pr2) (y := .slice p2 ms.length c2) BX.out (show w.heap.size ≤ gb by have := GG.out; omega))
    refine hK.out _ _ ⟨(var2_facts VW2.out).1, (var2_facts VW2.out).2.1⟩ (fun hH => ?_)
    clear hK K q0 q1 z0 z1 VW FX FY BX VB VA
    have VA := VA2
    have VW := VW2
    have FX := FX2
    have FY := FY2
    have BX := BX2
    have VB := VE
    clear VE VA2 VW2 FX2 FY2 BX2
    generalize (xy.setCell ⟨gb, 0, none⟩ (.int .i64 pr2)).setCell ⟨gb, 1, none⟩ (.slice p2 ms.length c2) = xz at *
    refine wpAnyH_done (by kernel_rfl) ?_ _
    go_wp2
    exact bodyPost_ret (v := .tuple #[.agg #[.int .i64 pr, .slice pu ks.length cu], .agg #[.int .i64 pr2, .slice p2 ms.length c2]]) (results_cc rfl _ _ ga gb 38 38 _ _ _ _ _ _ rfl rfl VA.out VB.out Try.underlying38 rfl (by kernel_rfl) Try.underlying38 rfl (by kernel_rfl)) rfl ⟨pr, pr2, .slice pu ks.length cu, .slice p2 ms.length c2, ks, ms, rfl, FX.out.rd, FY.out.rd, KX.out.1, BX.out⟩
  · skip
    go_wp2_with fail
    obtain ⟨y0, y1, -, -⟩ := var2_facts VW.out
    refine wp_region_held_drew (S := fun w' => w'.cell? ⟨gw, 0, none⟩ = some (.int .i64 pr) ∧ w'.cell? ⟨gw, 1, none⟩ = some (.slice pu ks.length cu)) (by kernel_rfl) ⟨y0, y1⟩ (fun hH => ?_)
    have VAd := hid (show x4.drew.heap[ga]? = some (.cells #[.int .i64 0, .slice none 0 0] 38) from VA.out)
    have VBd := hid (show x4.drew.heap[gb]? = some (.cells #[.int .i64 0, .slice none 0 0] 38) from VB.out)
    have VWd := hid (show x4.drew.heap[gw]? = some (.cells #[.int .i64 pr, .slice pu ks.length cu] 38) from VW.out)
    have FXd := hid (show FK x4.drew N gw gw (.slice pu ks.length cu) ks from FX.out.go (fun _ _ _ _ => rfl))
    have BSd := hid (show Below x0.heap.size x0 x4.drew from S.out.bel.drew)
    have HMd := hid (show gw < x4.drew.heap.size from HM.out)
    clear VA VB VW FX S HM y0 y1
    generalize x4.drew = x at *
    have VA := VAd
    have VB := VBd
    have VW := VWd
    have FX := FXd
    have BS := BSd
    have HM := HMd
    clear VAd VBd VWd FXd BSd HMd
    refine wpAnyH_take (i := 0) (v := .agg #[.int .i64 pr, .slice pu ks.length cu]) (by simp only [List.getElem?_toArray, List.getElem?_cons_zero]; rfl) (by kernel_rfl) (by kernel_rfl) (by kernel_rfl) (by intro _ _ _ h; exact h) (Or.inl ⟨by rfl, fun w hS => by (have y0 := hS.1; have y1 := hS.2; go_simp)⟩) hH ?_
    simp only [Act.put, List.setIfInBounds_toArray, List.set_cons_zero, List.set_cons_succ]
    refine wpAnyH_ready (rs := [1]) (by kernel_rfl) (by simp) ?_
    refine AllReadyH.cons (by simp only [List.getElem?_toArray, List.getElem?_cons_succ, List.getElem?_cons_zero]; rfl) (fun K hK => ?_) AllReadyH.nil
    go_simp
    refine (l4copyG gw pr _ ks _ VW.out FX.out.rd (fun i hi => by have := (KX.out.2 _ (List.getElem_mem hi)).2.1; exact ⟨by omega, by omega⟩) (by have := KX.out.1; omega)).mono ?_
    rintro e xb ⟨u2, rfl, hO, hM⟩
    obtain ⟨p2, c2, rfl, -, -, -⟩ := hO.rd.parts
    obtain ⟨N2, hN2⟩ : ∃ z, z = x.heap.size := ⟨_, rfl⟩
    have FY := hid (fk_oks hO (Nat.le_refl _))
    rw [← hN2] at FY
    have LN2 := hid (show gw < N2 by have := HM.out; omega)
    have BX := hid ((B0.out.trans (BS.out.mono B0.out.size)).trans (hM.mono (by have := B0.out.size; have := BS.out.size; omega)))
    replace FX := hid (FX.out.below hM (Nat.le_of_lt HM.out))
    replace VA := hid (var_below hM VA.out)
    replace VB := hid (var_below hM VB.out)
    replace VW := hid (var_below hM VW.out)
    refine hK.out _ _ ⟨(var2_facts VW.out).1, (var2_facts VW.out).2.1⟩ (fun hH => ?_)
    clear hK K hO hM BS hN2
    refine wpAnyH_ready (rs := [2]) (by kernel_rfl) (by simp) ?_
    refine AllReadyH.cons (by simp only [List.getElem?_toArray, List.getElem?_cons_succ, List.getElem?_cons_zero]; rfl) (fun K hK => ?_) AllReadyH.nil
    obtain ⟨q0, q1, z0, z1⟩ := var2_facts VA.out
    go_simp
    have VE := hid (var2_set (x' := .int .i64 pr) (y' := .slice pu ks.length cu) VA.out)
    have VB2 := hid (set2_otherR (x := .int .i64 pr) (y := .slice pu ks.length cu) (show gb ≠ ga by have := GG.out; omega) VB.out)
    have VW2 := hid (set2_otherR (x := .int .i64 pr) (y := .slice pu ks.length cu) (show gw ≠ ga by have := LQ.out; omega) VW.out)
    have FX2 := hid ((FX.out.set (i := 0) (x := .int .i64 pr) (.inl (show ga < N by have := LQ.out; omega))).set (i := 1) (x := .slice pu ks.length cu) (.inl (show ga < N by have := LQ.out; omega)))
    have FY2 := hid ((FY.out.set (i := 0) (x := .int .i64 pr) (.inl (show ga < N2 by have := LN2.out; have := LQ.out; omega))).set (i := 1) (x := .slice pu ks.length cu) (.inl (show ga < N2 by have := LN2.out; have := LQ.out; omega)))
    have BX2 := hid (wbelR2 (x := .int .i64 pr) (y := .slice pu ks.length cu) BX.out (show w.heap.size ≤ ga by have := GG.out; omega))
    refine hK.out _ _ ⟨(var2_facts VW2.out).1, (var2_facts VW2.out).2.1⟩ (fun hH => ?_)
    clear hK K q0 q1 z0 z1 VW FX FY BX VA VB
    have VB := VB2
    have VW := VW2
    have FX := FX2
    have FY := FY2
    have BX := BX2
    have VA := VE
    clear VE VB2 VW2 FX2 FY2 BX2
    generalize (xb.setCell ⟨ga, 0, none⟩ (.int .i64 pr)).setCell ⟨ga, 1, none⟩ (.slice pu ks.length cu) = xy at *
    refine wpAnyH_ready (rs := [3]) (by kernel_rfl) (by simp) ?_
    refine AllReadyH.cons (by simp only [List.getElem?_toArray, List.getElem?_cons_succ, List.getElem?_cons_zero]; rfl) (fun K hK => ?_) AllReadyH.nil
    obtain ⟨q0, q1, z0, z1⟩ := var2_facts VB.out
    go_simp
    have VE := hid (var2_set (x' := .int .i64 pr) (y' := .slice p2 ks.length c2) VB.out)
    have VA2 := hid (set2_otherR (x := .int .i64 pr) (y := .slice p2 ks.length c2) (show ga ≠ gb by have := GG.out; omega) VA.out)
    have VW2 := hid (set2_otherR (x := .int .i64 pr) (y := .slice p2 ks.length c2) (show gw ≠ gb by have := LQ.out; omega) VW.out)
    have FX2 := hid ((FX.out.set (i := 0) (x := .int .i64 pr) (.inl (show gb < N by have := LQ.out; omega))).set (i := 1) (x := .slice p2 ks.length c2) (.inl (show gb < N by have := LQ.out; omega)))
    have FY2 := hid ((FY.out.set (i := 0) (x := .int .i64 pr) (.inl (show gb < N2 by have := LN2.out; have := LQ.out; omega))).set (i := 1) (x := .slice p2 ks.length c2) (.inl (show gb < N2 by have := LN2.out; have := LQ.out; omega)))
    have BX2 := hid (wbelR2 (x := .int .i64 pr) (y := .slice p2 ks.length c2) BX.out (show w.heap.size ≤ gb by have := GG.out; omega))
    refine hK.out _ _ ⟨(var2_facts VW2.out).1, (var2_facts VW2.out).2.1⟩ (fun hH => ?_)
    clear hK K q0 q1 z0 z1 VW FX FY BX VB VA
    have VA := VA2
    have VW := VW2
    have FX := FX2
    have FY := FY2
    have BX := BX2
    have VB := VE
    clear VE VA2 VW2 FX2 FY2 BX2
    generalize (xy.setCell ⟨gb, 0, none⟩ (.int .i64 pr)).setCell ⟨gb, 1, none⟩ (.slice p2 ks.length c2) = xz at *
    refine wpAnyH_done (by kernel_rfl) ?_ _
    go_wp2
    exact bodyPost_ret (v := .tuple #[.agg #[.int .i64 pr, .slice pu ks.length cu], .agg #[.int .i64 pr, .slice p2 ks.length c2]]) (results_cc rfl _ _ ga gb 38 38 _ _ _ _ _ _ rfl rfl VA.out VB.out Try.underlying38 rfl (by kernel_rfl) Try.underlying38 rfl (by kernel_rfl)) rfl ⟨pr, pr, .slice pu ks.length cu, .slice p2 ks.length c2, ks, ks, rfl, FX.out.rd, FY.out.rd, KX.out.1, BX.out⟩
end Go.Proofs.Ytbfdbicddmffnab.W

namespace Go.Proofs.Ytbfdbicddmffnab.W
open Go.ChangeShapes Go.WideShapes Go.ChangeAt Go.RowKit
open Go.Proofs.Ytbfdbicddmffnab.M

theorem ret_i {a b : Int} (h : a = b) : Ending.returned (.int .i64 a) = .returned (.int .i64 b) := by rw [h]
set_option maxRecDepth 100000 in
theorem l4key (b o : Nat) (id' : Int) (a : Option Addr) (n c : Nat) (w : World) (c1 : w.cell? ⟨b, o, none⟩ = some (.int .i64 id')) (c2 : w.cell? ⟨b, o + 1, none⟩ = some (.slice a n c)) (l : List Nat) (hl : l.length = n) :
    Calls Try.prog 90 #[.pointer (some ⟨b, o, none⟩)] w fun e w' => e = .returned (.int .i64 (kF (id', l))) ∧ Below w.heap.size w w' := by
  have I := hid (l1in id' 1 255 w)
  by_cases h1 : 1 ≤ id' ∧ id' ≤ 255
  · have hin : inB id' 1 255 = true := by unfold inB; exact decide_eq_true h1
    by_cases h2 : n = 16
    · have E := hid (show kF (id', l) = 0 by rw [kF, if_pos h1, if_pos (hl.trans h2)])
      subst h2
      clear h1
      go_enter Try.func90, Try.ntmps90
      go_wp2_with fail
      refine (l1in _ _ _ _).mono ?_
      rintro e w' ⟨rfl, rfl⟩
      rw [hin]
      go_wp2
      go_ret
      exact ⟨ret_i E.out.symm, Below.refl _ _⟩
    · have E := hid (show kF (id', l) = 2 by rw [kF, if_pos h1, if_neg (fun q => h2 (hl.symm.trans q))])
      have ne : ((n : Int) != 16) = true := by rw [bne_iff_ne]; omega
      clear h1
      go_enter Try.func90, Try.ntmps90
      go_wp2_with fail
      refine (l1in _ _ _ _).mono ?_
      rintro e w' ⟨rfl, rfl⟩
      rw [hin]
      go_wp2
      go_ret
      exact ⟨ret_i E.out.symm, Below.refl _ _⟩
  · have hin : inB id' 1 255 = false := by unfold inB; exact decide_eq_false h1
    have E := hid (show kF (id', l) = 3 by rw [kF, if_neg h1])
    clear h1
    go_enter Try.func90, Try.ntmps90
    go_wp2_with fail
    refine (l1in _ _ _ _).mono ?_
    rintro e w' ⟨rfl, rfl⟩
    rw [hin]
    go_wp2
    go_ret
    exact ⟨ret_i E.out.symm, Below.refl _ _⟩
theorem idx_kf (b o n c j : Nat) (hj : j < n) (w : World) : (Instr.indexAt 36 (.slice (some ⟨b, o, none⟩) n c) (.int .i64 (j : Int))).run Try.prog w = .ok (.pointer (some ⟨b, o + j * 2, none⟩)) w := by
  have hs : ∀ w : World, (sizeOf (Try.prog.elem 36)).run Try.prog w = .ok 2 w := fun _ => by kernel_rfl
  rw [run_indexAt_slice (P := Try.prog) w 36 _ n c .i64 (j : Int) (by kernel_rfl)]
  simp [hs, hj, Result.andThen, Addr.add_lit]
set_option maxHeartbeats 1000000 in
set_option maxRecDepth 100000 in
theorem l4find (g : Nat) (q id' : Int) (v : Value) (ks : List (Int × List Nat)) (w : World) (hV : w.heap[g]? = some (.cells #[.int .i64 q, v] 38)) (h : RdK w v ks) (hl : ks.length ≤ 1048576) :
    Calls Try.prog 91 #[.pointer (some ⟨g, 0, none⟩), .int .i64 id'] w fun e w' => ∃ r : Int, e = .returned (.int .i64 r) ∧ ((r = -1 ∧ ¬ Has ks id') ∨ ∃ i, ∃ hi : i < ks.length, r = (i : Int) ∧ (ks[i]).1 = id' ∧ ∀ j (hj : j < ks.length), j < i → (ks[j]).1 ≠ id') ∧ Below w.heap.size w w' := by
  have V := hid hV
  have H := hid h
  obtain ⟨a, cap, rfl, -, -, -⟩ := h.parts
  clear h hV
  go_enter Try.func91, Try.ntmps91
  go_wp2_with fail
  go_loopw [5] (fun i wr => ∃ k : Nat, k ≤ ks.length ∧ i = .int .i64 k ∧ Hid (∀ j (hj : j < ks.length), j < k → (ks[j]).1 ≠ id') ∧ Hid (Below w.heap.size w wr)) (fun i _ => ks.length - (intOf i).toNat)
  case atStart => exact ⟨0, by omega, rfl, hid (fun j _ h => absurd h (Nat.not_lt_zero j)), hid (Below.refl _ _)⟩
  case round =>
    obtain ⟨k, hk, rfl, T, BL⟩ := hrel
    obtain ⟨f0, f1, -, -⟩ := var2_facts (var_below BL.out V.out)
    by_cases hlt : k < ks.length
    · obtain ⟨a', ca', e, -, -, hcs⟩ := (H.out.below BL.out).parts
      cases e
      obtain ⟨b, o, u, rfl, q1, q2, -⟩ := hcs k hlt
      have I1 := idx_kf b o ks.length cap k hlt
      have k0 : (0 : Int) ≤ (k : Int) := by omega
      have k1 : (k : Int) < (ks.length : Int) := by omega
      clear hcs
      by_cases e : (ks[k]).1 = id'
      · have R := hid (show ∃ i, ∃ hi : i < ks.length, (k : Int) = (i : Int) ∧ (ks[i]).1 = id' ∧ ∀ j (hj : j < ks.length), j < i → (ks[j]).1 ≠ id' from ⟨k, hlt, rfl, e, T.out⟩)
        have E := hid e
        rw [e] at q1
        clear e
        go_wp2
        go_ret
        exact ⟨_, rfl, .inr R.out, BL.out⟩
      · have T2 := hid (show ∀ j (hj : j < ks.length), j < k + 1 → (ks[j]).1 ≠ id' from fun j hj hjk => by
          rcases Nat.lt_or_ge j k with q | q
          · exact T.out j hj q
          · obtain rfl : j = k := by omega
            exact e)
        generalize (ks[k]).1 = x at *
        have ne : (x == id') = false := beq_eq_false_iff_ne.2 e
        replace e := hid e
        go_wp2
        go_roundw
        case rel => exact ⟨k + 1, hlt, by go_num, T2, BL⟩
        case measure => simp [intOf]; omega
    · have hke : k = ks.length := by omega
      subst hke
      have N := hid (show ¬ Has ks id' from fun ⟨i, hi, hx⟩ => T.out i hi hi hx)
      go_wp2
      go_ret
      exact ⟨-1, rfl, .inl ⟨rfl, N.out⟩, BL.out⟩
set_option maxHeartbeats 2000000 in
set_option maxRecDepth 100000 in
theorem srf (p : Int) (v : Value) (ks : List (Int × List Nat)) (w : World) (h : RdK w v ks) :
    Calls Try.prog 34 #[.agg #[.int .i64 p, v]] w fun e w' => e = .returned (.int .i64 (rF p ks)) ∧ Below w.heap.size w w' := by
  have H := hid h
  obtain ⟨a, cap, rfl, -, hcm, -⟩ := h.parts
  clear h
  unfold maxLen at hcm
  have V := hid (heap_alloc_new w (.cells #[.int .i64 p, .slice a ks.length cap] 38))
  have BB := hid (below_alloc1 w (.cells #[.int .i64 p, .slice a ks.length cap] 38))
  by_cases hn : ks.length < 1 ∨ 3 < ks.length
  · have E := hid (rF_many (p := p) hn)
    by_cases h1 : ks.length < 1
    · replace hn := hid hn
      go_enter Try.func34, Try.ntmps34
      go_wp2
      go_ret
      exact ⟨ret_i E.out.symm, BB.out⟩
    · have h3 : 3 < ks.length := by omega
      replace hn := hid hn
      go_enter Try.func34, Try.ntmps34
      go_wp2
      go_ret
      exact ⟨ret_i E.out.symm, BB.out⟩
  · have h1 : 1 ≤ ks.length := by omega
    have h3 : ks.length ≤ 3 := by omega
    replace hn := hid hn
    go_enter Try.func34, Try.ntmps34
    go_wp2_with fail
    replace H := hid (H.out.below BB.out)
    generalize w.alloc (.cells #[.int .i64 p, .slice a ks.length cap] 38) = w0 at *
    obtain ⟨g, hg⟩ : ∃ g, g = w.heap.size := ⟨_, rfl⟩
    rw [← hg] at V ⊢
    clear hg
    go_loopw [3, 4] (fun i s4 wr => ∃ k : Nat, ∃ u4 : Value, k ≤ ks.length ∧ i = .int .i64 k ∧ s4 = u4 ∧ Hid (∀ j (hj : j < ks.length), j < k → kF ks[j] = 0) ∧ Hid (Below w0.heap.size w0 wr)) (fun i _ _ => ks.length - (intOf i).toNat)
    case atStart => exact ⟨0, _, by omega, rfl, rfl, hid (fun j _ h => absurd h (Nat.not_lt_zero j)), hid (Below.refl _ _)⟩
    case round =>
      obtain ⟨k, v4, hk, rfl, rfl, T, BL⟩ := hrel
      obtain ⟨f0, f1, -, -⟩ := var2_facts (var_below BL.out V.out)
      by_cases hlt : k < ks.length
      · obtain ⟨a', ca', e, -, -, hcs⟩ := (H.out.below BL.out).parts
        cases e
        obtain ⟨b, o, u, rfl, q1, q2, q3⟩ := hcs k hlt
        obtain ⟨pu, cu, rfl, -, -, -⟩ := q3.parts
        have I1 := idx_kf b o ks.length cap k hlt
        have k0 : (0 : Int) ≤ (k : Int) := by omega
        have k1 : (k : Int) < (ks.length : Int) := by omega
        clear hcs q3
        go_wp2_with fail
        refine (l4key _ _ _ _ _ _ _ q1 q2 (ks[k]).2 rfl).mono ?_
        rintro e w' ⟨rfl, hB⟩
        replace BL := hid (BL.out.trans (hB.mono BL.out.size))
        have B2 := hid (BB.out.trans (BL.out.mono BB.out.size))
        have EK : kF ((ks[k]).1, (ks[k]).2) = kF ks[k] := rfl
        rw [EK]
        clear hB EK q1 q2 f0 f1
        by_cases e : kF ks[k] = 0
        · have T2 := hid (show ∀ j (hj : j < ks.length), j < k + 1 → kF ks[j] = 0 from fun j hj hjk => by
            rcases Nat.lt_or_ge j k with q | q
            · exact T.out j hj q
            · obtain rfl : j = k := by omega
              exact e)
          rw [e]
          replace e := hid e
          go_wp2
          go_roundw
          case rel => exact ⟨k + 1, _, hlt, by go_num, rfl, T2, BL⟩
          case measure => simp [intOf]; omega
        · have E := hid (rF_key (p := p) hn.out k hlt T.out e)
          obtain ⟨x, hx⟩ : ∃ x, x = kF ks[k] := ⟨_, rfl⟩
          rw [← hx] at e ⊢
          have X := hid hx
          have ne : (x != 0) = true := by rw [bne_iff_ne]; exact e
          clear hx
          replace e := hid e
          go_wp2
          go_ret
          exact ⟨ret_i (X.out.trans E.out.symm), B2.out⟩
      · have hke : k = ks.length := by omega
        subst hke
        replace T := hid (show ∀ j (hj : j < ks.length), kF ks[j] = 0 from fun j hj => T.out j hj hj)
        replace V := hid (var_below BL.out V.out)
        replace H := hid (H.out.below BL.out)
        replace BB := hid (BB.out.trans (BL.out.mono BB.out.size))
        clear BL
        obtain ⟨w1, hw1⟩ : ∃ w', w' = wr := ⟨_, rfl⟩
        rw [← hw1] at V H BB f0 f1 ⊢
        clear hw1
        go_wp2_with fail
        clear f0 f1
        go_loopw [5] (fun i wr => ∃ k : Nat, 1 ≤ k ∧ k ≤ ks.length ∧ i = .int .i64 k ∧ Hid (∀ j (h : j + 1 < ks.length), j + 1 < k → (ks[j]'(by omega)).1 < (ks[j + 1]).1) ∧ Hid (Below w1.heap.size w1 wr)) (fun i _ => ks.length - (intOf i).toNat)
        case atStart => exact ⟨1, by omega, h1, rfl, hid (fun j _ h => by omega), hid (Below.refl _ _)⟩
        case round =>
          obtain ⟨k, hk1, hk, rfl, R, BL⟩ := hrel
          obtain ⟨f0, f1, -, -⟩ := var2_facts (var_below BL.out V.out)
          by_cases hlt : k < ks.length
          · obtain ⟨a', ca', e, -, -, hcs⟩ := (H.out.below BL.out).parts
            cases e
            obtain ⟨b, o, u, rfl, q1, -, -⟩ := hcs k hlt
            obtain ⟨m, hm⟩ : ∃ m, m = k - 1 := ⟨_, rfl⟩
            have hml : m < ks.length := by omega
            obtain ⟨b', o', u', e, t1, -, -⟩ := hcs m hml
            cases e
            have W1 : (k : Int) - 1 = (m : Int) := by omega
            have W2 : IntKind.i64.wrap (m : Int) = (m : Int) := by rw [IntKind.wrap_i64]; omega
            have I1 := idx_kf b o ks.length cap k hlt
            have I2 := idx_kf b o ks.length cap m hml
            have k0 : (0 : Int) ≤ (k : Int) := by omega
            have k1 : (k : Int) < (ks.length : Int) := by omega
            have m1 : (m : Int) < (ks.length : Int) := by omega
            have em : k = m + 1 := by omega
            have RN : Hid ((ks[m]).1 < (ks[k]).1 → ∀ j (h : j + 1 < ks.length), j + 1 < k + 1 → (ks[j]'(by omega)).1 < (ks[j + 1]).1) := hid (fun hx j h hj => by
              rcases Nat.lt_or_ge (j + 1) k with q | q
              · exact R.out j h q
              · obtain rfl : j = m := by omega
                subst em
                exact hx)
            have RF : Hid (¬ (ks[m]).1 < (ks[k]).1 → ¬ Rise ks) := hid (fun hx hr => by
              subst em
              exact hx (hr m hlt))
            replace em := hid em
            generalize (ks[k]).1 = x at *
            generalize (ks[m]).1 = y at *
            clear hcs hm
            by_cases e : y < x
            · have R2 := hid (RN.out e)
              have le : ¬ x ≤ y := by omega
              have dl : decide (x ≤ y) = false := decide_eq_false le
              go_wp2_with fail
              -- RISES
              refine wp_region_held_drew (S := fun w' => Below wr.heap.size wr w') (by kernel_rfl) (Below.refl _ _).drew (fun hH => ?_)
              refine wpAnyH_take (i := 0) (v := .pointer (some ⟨g, 1, none⟩)) (by simp only [List.getElem?_toArray, List.getElem?_cons_zero]; rfl) (by kernel_rfl) (by kernel_rfl) (by kernel_rfl) (by intro _ _ _ h; exact h) (Or.inl ⟨by rfl, fun w hS => by go_simp⟩) hH ?_
              simp only [Act.put, List.setIfInBounds_toArray, List.set_cons_zero, List.set_cons_succ]
              refine wpAnyH_take (i := 1) (v := .slice (some ⟨b, o, none⟩) ks.length cap) (by simp only [List.getElem?_toArray, List.getElem?_cons_succ, List.getElem?_cons_zero]; rfl) (by kernel_rfl) (by kernel_rfl) (by kernel_rfl) (by intro _ _ _ h; exact h) (Or.inl ⟨by rfl, fun w hS => by (have y0 := cell_kept hS f1; go_simp)⟩) hH ?_
              simp only [Act.put, List.setIfInBounds_toArray, List.set_cons_zero, List.set_cons_succ]
              refine wpAnyH_take (i := 2) (v := .int .i64 (k : Int)) (by simp only [List.getElem?_toArray, List.getElem?_cons_succ, List.getElem?_cons_zero]; rfl) (by kernel_rfl) (by kernel_rfl) (by kernel_rfl) (by intro _ _ _ h; exact h) (Or.inl ⟨by rfl, fun w hS => by go_simp⟩) hH ?_
              simp only [Act.put, List.setIfInBounds_toArray, List.set_cons_zero, List.set_cons_succ]
              refine wpAnyH_take (i := 3) (v := .pointer (some ⟨b, o + k * 2, none⟩)) (by simp only [List.getElem?_toArray, List.getElem?_cons_succ, List.getElem?_cons_zero]; rfl) (by kernel_rfl) (by kernel_rfl) (by kernel_rfl) (by intro _ _ _ h; exact h) (Or.inl ⟨by rfl, fun w hS => by go_simp⟩) hH ?_
              simp only [Act.put, List.setIfInBounds_toArray, List.set_cons_zero, List.set_cons_succ]
              refine wpAnyH_take (i := 4) (v := .pointer (some ⟨b, o + k * 2, none⟩)) (by simp only [List.getElem?_toArray, List.getElem?_cons_succ, List.getElem?_cons_zero]; rfl) (by kernel_rfl) (by kernel_rfl) (by kernel_rfl) (by intro _ _ _ h; exact h) (Or.inl ⟨by rfl, fun w hS => by go_simp⟩) hH ?_
              simp only [Act.put, List.setIfInBounds_toArray, List.set_cons_zero, List.set_cons_succ]
              refine wpAnyH_take (i := 5) (v := .int .i64 x) (by simp only [List.getElem?_toArray, List.getElem?_cons_succ, List.getElem?_cons_zero]; rfl) (by kernel_rfl) (by kernel_rfl) (by kernel_rfl) (by intro _ _ _ h; exact h) (Or.inl ⟨by rfl, fun w hS => by (have y0 := cell_kept hS q1; go_simp)⟩) hH ?_
              simp only [Act.put, List.setIfInBounds_toArray, List.set_cons_zero, List.set_cons_succ]
              refine wpAnyH_take (i := 6) (v := .pointer (some ⟨g, 1, none⟩)) (by simp only [List.getElem?_toArray, List.getElem?_cons_succ, List.getElem?_cons_zero]; rfl) (by kernel_rfl) (by kernel_rfl) (by kernel_rfl) (by intro _ _ _ h; exact h) (Or.inl ⟨by rfl, fun w hS => by go_simp⟩) hH ?_
              simp only [Act.put, List.setIfInBounds_toArray, List.set_cons_zero, List.set_cons_succ]
              refine wpAnyH_take (i := 7) (v := .slice (some ⟨b, o, none⟩) ks.length cap) (by simp only [List.getElem?_toArray, List.getElem?_cons_succ, List.getElem?_cons_zero]; rfl) (by kernel_rfl) (by kernel_rfl) (by kernel_rfl) (by intro _ _ _ h; exact h) (Or.inl ⟨by rfl, fun w hS => by (have y0 := cell_kept hS f1; go_simp)⟩) hH ?_
              simp only [Act.put, List.setIfInBounds_toArray, List.set_cons_zero, List.set_cons_succ]
              refine wpAnyH_take (i := 8) (v := .int .i64 (k : Int)) (by simp only [List.getElem?_toArray, List.getElem?_cons_succ, List.getElem?_cons_zero]; rfl) (by kernel_rfl) (by kernel_rfl) (by kernel_rfl) (by intro _ _ _ h; exact h) (Or.inl ⟨by rfl, fun w hS => by go_simp⟩) hH ?_
              simp only [Act.put, List.setIfInBounds_toArray, List.set_cons_zero, List.set_cons_succ]
              refine wpAnyH_take (i := 9) (v := .int .i64 (m : Int)) (by simp only [List.getElem?_toArray, List.getElem?_cons_succ, List.getElem?_cons_zero]; rfl) (by kernel_rfl) (by kernel_rfl) (by kernel_rfl) (by intro _ _ _ h; exact h) (Or.inl ⟨by rfl, fun w hS => by go_simp⟩) hH ?_
              simp only [Act.put, List.setIfInBounds_toArray, List.set_cons_zero, List.set_cons_succ]
              refine wpAnyH_take (i := 10) (v := .pointer (some ⟨b, o + m * 2, none⟩)) (by simp only [List.getElem?_toArray, List.getElem?_cons_succ, List.getElem?_cons_zero]; rfl) (by kernel_rfl) (by kernel_rfl) (by kernel_rfl) (by intro _ _ _ h; exact h) (Or.inl ⟨by rfl, fun w hS => by go_simp⟩) hH ?_
              simp only [Act.put, List.setIfInBounds_toArray, List.set_cons_zero, List.set_cons_succ]
              refine wpAnyH_take (i := 11) (v := .pointer (some ⟨b, o + m * 2, none⟩)) (by simp only [List.getElem?_toArray, List.getElem?_cons_succ, List.getElem?_cons_zero]; rfl) (by kernel_rfl) (by kernel_rfl) (by kernel_rfl) (by intro _ _ _ h; exact h) (Or.inl ⟨by rfl, fun w hS => by go_simp⟩) hH ?_
              simp only [Act.put, List.setIfInBounds_toArray, List.set_cons_zero, List.set_cons_succ]
              refine wpAnyH_take (i := 12) (v := .int .i64 y) (by simp only [List.getElem?_toArray, List.getElem?_cons_succ, List.getElem?_cons_zero]; rfl) (by kernel_rfl) (by kernel_rfl) (by kernel_rfl) (by intro _ _ _ h; exact h) (Or.inl ⟨by rfl, fun w hS => by (have y0 := cell_kept hS t1; go_simp)⟩) hH ?_
              simp only [Act.put, List.setIfInBounds_toArray, List.set_cons_zero, List.set_cons_succ]
              refine wpAnyH_take (i := 13) (v := .bool false) (by simp only [List.getElem?_toArray, List.getElem?_cons_succ, List.getElem?_cons_zero]; rfl) (by kernel_rfl) (by kernel_rfl) (by kernel_rfl) (by intro _ _ _ h; exact h) (Or.inl ⟨by rfl, fun w hS => by go_simp⟩) hH ?_
              simp only [Act.put, List.setIfInBounds_toArray, List.set_cons_zero, List.set_cons_succ]
              refine wpAnyH_done (by kernel_rfl) ?_ _
              replace BL := hid (BL.out.trans (hH.mono BL.out.size))
              have B2 := hid (BB.out.trans (BL.out.mono BB.out.size))
              clear hH
              -- END RISES
              go_wp2
              go_roundw
              case rel => exact ⟨k + 1, by omega, hlt, by go_num, R2, BL⟩
              case measure => simp [intOf]; omega
            · have E := hid (rF_form (p := p) hn.out T.out (RF.out e))
              have le : x ≤ y := by omega
              have dl : decide (x ≤ y) = true := decide_eq_true le
              go_wp2_with fail
              -- FALLS
              refine wp_region_held_drew (S := fun w' => Below wr.heap.size wr w') (by kernel_rfl) (Below.refl _ _).drew (fun hH => ?_)
              refine wpAnyH_take (i := 0) (v := .pointer (some ⟨g, 1, none⟩)) (by simp only [List.getElem?_toArray, List.getElem?_cons_zero]; rfl) (by kernel_rfl) (by kernel_rfl) (by kernel_rfl) (by intro _ _ _ h; exact h) (Or.inl ⟨by rfl, fun w hS => by go_simp⟩) hH ?_
              simp only [Act.put, List.setIfInBounds_toArray, List.set_cons_zero, List.set_cons_succ]
              refine wpAnyH_take (i := 1) (v := .slice (some ⟨b, o, none⟩) ks.length cap) (by simp only [List.getElem?_toArray, List.getElem?_cons_succ, List.getElem?_cons_zero]; rfl) (by kernel_rfl) (by kernel_rfl) (by kernel_rfl) (by intro _ _ _ h; exact h) (Or.inl ⟨by rfl, fun w hS => by (have y0 := cell_kept hS f1; go_simp)⟩) hH ?_
              simp only [Act.put, List.setIfInBounds_toArray, List.set_cons_zero, List.set_cons_succ]
              refine wpAnyH_take (i := 2) (v := .int .i64 (k : Int)) (by simp only [List.getElem?_toArray, List.getElem?_cons_succ, List.getElem?_cons_zero]; rfl) (by kernel_rfl) (by kernel_rfl) (by kernel_rfl) (by intro _ _ _ h; exact h) (Or.inl ⟨by rfl, fun w hS => by go_simp⟩) hH ?_
              simp only [Act.put, List.setIfInBounds_toArray, List.set_cons_zero, List.set_cons_succ]
              refine wpAnyH_take (i := 3) (v := .pointer (some ⟨b, o + k * 2, none⟩)) (by simp only [List.getElem?_toArray, List.getElem?_cons_succ, List.getElem?_cons_zero]; rfl) (by kernel_rfl) (by kernel_rfl) (by kernel_rfl) (by intro _ _ _ h; exact h) (Or.inl ⟨by rfl, fun w hS => by go_simp⟩) hH ?_
              simp only [Act.put, List.setIfInBounds_toArray, List.set_cons_zero, List.set_cons_succ]
              refine wpAnyH_take (i := 4) (v := .pointer (some ⟨b, o + k * 2, none⟩)) (by simp only [List.getElem?_toArray, List.getElem?_cons_succ, List.getElem?_cons_zero]; rfl) (by kernel_rfl) (by kernel_rfl) (by kernel_rfl) (by intro _ _ _ h; exact h) (Or.inl ⟨by rfl, fun w hS => by go_simp⟩) hH ?_
              simp only [Act.put, List.setIfInBounds_toArray, List.set_cons_zero, List.set_cons_succ]
              refine wpAnyH_take (i := 5) (v := .int .i64 x) (by simp only [List.getElem?_toArray, List.getElem?_cons_succ, List.getElem?_cons_zero]; rfl) (by kernel_rfl) (by kernel_rfl) (by kernel_rfl) (by intro _ _ _ h; exact h) (Or.inl ⟨by rfl, fun w hS => by (have y0 := cell_kept hS q1; go_simp)⟩) hH ?_
              simp only [Act.put, List.setIfInBounds_toArray, List.set_cons_zero, List.set_cons_succ]
              refine wpAnyH_take (i := 6) (v := .pointer (some ⟨g, 1, none⟩)) (by simp only [List.getElem?_toArray, List.getElem?_cons_succ, List.getElem?_cons_zero]; rfl) (by kernel_rfl) (by kernel_rfl) (by kernel_rfl) (by intro _ _ _ h; exact h) (Or.inl ⟨by rfl, fun w hS => by go_simp⟩) hH ?_
              simp only [Act.put, List.setIfInBounds_toArray, List.set_cons_zero, List.set_cons_succ]
              refine wpAnyH_take (i := 7) (v := .slice (some ⟨b, o, none⟩) ks.length cap) (by simp only [List.getElem?_toArray, List.getElem?_cons_succ, List.getElem?_cons_zero]; rfl) (by kernel_rfl) (by kernel_rfl) (by kernel_rfl) (by intro _ _ _ h; exact h) (Or.inl ⟨by rfl, fun w hS => by (have y0 := cell_kept hS f1; go_simp)⟩) hH ?_
              simp only [Act.put, List.setIfInBounds_toArray, List.set_cons_zero, List.set_cons_succ]
              refine wpAnyH_take (i := 8) (v := .int .i64 (k : Int)) (by simp only [List.getElem?_toArray, List.getElem?_cons_succ, List.getElem?_cons_zero]; rfl) (by kernel_rfl) (by kernel_rfl) (by kernel_rfl) (by intro _ _ _ h; exact h) (Or.inl ⟨by rfl, fun w hS => by go_simp⟩) hH ?_
              simp only [Act.put, List.setIfInBounds_toArray, List.set_cons_zero, List.set_cons_succ]
              refine wpAnyH_take (i := 9) (v := .int .i64 (m : Int)) (by simp only [List.getElem?_toArray, List.getElem?_cons_succ, List.getElem?_cons_zero]; rfl) (by kernel_rfl) (by kernel_rfl) (by kernel_rfl) (by intro _ _ _ h; exact h) (Or.inl ⟨by rfl, fun w hS => by go_simp⟩) hH ?_
              simp only [Act.put, List.setIfInBounds_toArray, List.set_cons_zero, List.set_cons_succ]
              refine wpAnyH_take (i := 10) (v := .pointer (some ⟨b, o + m * 2, none⟩)) (by simp only [List.getElem?_toArray, List.getElem?_cons_succ, List.getElem?_cons_zero]; rfl) (by kernel_rfl) (by kernel_rfl) (by kernel_rfl) (by intro _ _ _ h; exact h) (Or.inl ⟨by rfl, fun w hS => by go_simp⟩) hH ?_
              simp only [Act.put, List.setIfInBounds_toArray, List.set_cons_zero, List.set_cons_succ]
              refine wpAnyH_take (i := 11) (v := .pointer (some ⟨b, o + m * 2, none⟩)) (by simp only [List.getElem?_toArray, List.getElem?_cons_succ, List.getElem?_cons_zero]; rfl) (by kernel_rfl) (by kernel_rfl) (by kernel_rfl) (by intro _ _ _ h; exact h) (Or.inl ⟨by rfl, fun w hS => by go_simp⟩) hH ?_
              simp only [Act.put, List.setIfInBounds_toArray, List.set_cons_zero, List.set_cons_succ]
              refine wpAnyH_take (i := 12) (v := .int .i64 y) (by simp only [List.getElem?_toArray, List.getElem?_cons_succ, List.getElem?_cons_zero]; rfl) (by kernel_rfl) (by kernel_rfl) (by kernel_rfl) (by intro _ _ _ h; exact h) (Or.inl ⟨by rfl, fun w hS => by (have y0 := cell_kept hS t1; go_simp)⟩) hH ?_
              simp only [Act.put, List.setIfInBounds_toArray, List.set_cons_zero, List.set_cons_succ]
              refine wpAnyH_take (i := 13) (v := .bool true) (by simp only [List.getElem?_toArray, List.getElem?_cons_succ, List.getElem?_cons_zero]; rfl) (by kernel_rfl) (by kernel_rfl) (by kernel_rfl) (by intro _ _ _ h; exact h) (Or.inl ⟨by rfl, fun w hS => by go_simp⟩) hH ?_
              simp only [Act.put, List.setIfInBounds_toArray, List.set_cons_zero, List.set_cons_succ]
              refine wpAnyH_done (by kernel_rfl) ?_ _
              replace BL := hid (BL.out.trans (hH.mono BL.out.size))
              have B2 := hid (BB.out.trans (BL.out.mono BB.out.size))
              clear hH
              -- END FALLS
              go_wp2
              go_ret
              exact ⟨ret_i E.out.symm, B2.out⟩
          · have hke : k = ks.length := by omega
            subst hke
            have RR := hid (show Rise ks from fun j h => R.out j h h)
            replace V := hid (var_below BL.out V.out)
            replace H := hid (H.out.below BL.out)
            replace BB := hid (BB.out.trans (BL.out.mono BB.out.size))
            clear BL
            go_wp2_with fail
            refine (l4find _ _ _ _ ks _ V.out H.out (by omega)).mono ?_
            rintro e w' ⟨r, rfl, hr, hB⟩
            replace BB := hid (BB.out.trans (hB.mono BB.out.size))
            clear hB f0 f1
            rcases hr with ⟨rfl, hno⟩ | ⟨i, hi, rfl, hx, -⟩
            · have E := hid (rF_none (p := p) hn.out T.out RR.out hno)
              replace hno := hid hno
              go_wp2
              go_ret
              exact ⟨ret_i E.out.symm, BB.out⟩
            · have E := hid (rF_ok (p := p) hn.out T.out RR.out ⟨i, hi, hx⟩)
              replace hx := hid hx
              have i0 : (0 : Int) ≤ (i : Int) := by omega
              go_wp2
              go_ret
              exact ⟨ret_i E.out.symm, BB.out⟩
end Go.Proofs.Ytbfdbicddmffnab.W

namespace Go.Proofs.Ytbfdbicddmffnab.W
open Go.ChangeShapes Go.WideShapes Go.ChangeAt Go.RowKit
open Go.Proofs.Ytbfdbicddmffnab.M

theorem fldR (x : Int) (v : Value) (w : World) : (Instr.field 38 (.agg #[.int .i64 x, v]) 1).run Try.prog w = .ok v w := by kernel_rfl
set_option maxHeartbeats 2000000 in
set_option maxRecDepth 100000 in
theorem sfk (p id' : Int) (v : Value) (ks : List (Int × List Nat)) (c rk : Int) (l : List Nat) (w : World) (h : RdK w v ks) (hF : fkIs p ks id' c rk l) :
    Calls Try.prog 32 #[.agg #[.int .i64 p, v], .int .i64 id'] w fun e w' => ∃ v', e = .returned (.agg #[.int .i64 c, .int .i64 rk, v']) ∧ Rd w' v' l ∧ Below w.heap.size w w' := by
  have H := hid h
  have HF := hid hF
  obtain ⟨a, cap, rfl, -, hcm, -⟩ := h.parts
  clear h hF hcm
  go_enter Try.func32, Try.ntmps32
  go_wp2_with fail
  have VA := hid (heap_alloc2_old w (.cells #[.int .i64 p, .slice a ks.length cap] 38) (.cells #[.int .i64 0, .int .i64 0, .slice none 0 0] 50))
  have VR := hid (heap_alloc2_new w (.cells #[.int .i64 p, .slice a ks.length cap] 38) (.cells #[.int .i64 0, .int .i64 0, .slice none 0 0] 50))
  have BB := hid (below_alloc2 w (.cells #[.int .i64 p, .slice a ks.length cap] 38) (.cells #[.int .i64 0, .int .i64 0, .slice none 0 0] 50))
  replace H := hid (H.out.below BB.out)
  generalize (w.alloc (.cells #[.int .i64 p, .slice a ks.length cap] 38)).alloc (.cells #[.int .i64 0, .int .i64 0, .slice none 0 0] 50) = w0 at *
  obtain ⟨g1, hg1⟩ : ∃ g, g = w.heap.size + 1 := ⟨_, rfl⟩
  obtain ⟨g, hg⟩ : ∃ g, g = w.heap.size := ⟨_, rfl⟩
  have LG := hid (show w.heap.size ≤ g1 by omega)
  rw [← hg1] at VR ⊢
  rw [← hg] at VA ⊢
  clear hg hg1
  refine (srf p _ ks _ H.out).mono ?_
  rintro e w1 ⟨rfl, hB⟩
  replace VA := hid (var_below hB VA.out)
  replace VR := hid (var_below hB VR.out)
  replace H := hid (H.out.below hB)
  replace BB := hid (BB.out.trans (hB.mono BB.out.size))
  clear hB
  obtain ⟨f, hf⟩ : ∃ f, f = rF p ks := ⟨_, rfl⟩
  rw [← hf]
  by_cases h0 : f = 0
  · subst h0
    obtain ⟨k1, k3, k16, -, -⟩ := rF_parts hf.symm
    replace hf := hid hf
    have K16 := hid (fun i hi => (k16 i hi).2)
    clear k16
    go_wp2_with fail
    refine (l4find g p id' _ ks _ VA.out H.out (by omega)).mono ?_
    rintro e w2 ⟨r, rfl, hr, hB⟩
    replace VA := hid (var_below hB VA.out)
    replace VR := hid (var_below hB VR.out)
    replace H := hid (H.out.below hB)
    replace BB := hid (BB.out.trans (hB.mono BB.out.size))
    clear hB
    rcases hr with ⟨rfl, hN⟩ | ⟨i, hi, rfl, he, hn⟩
    · obtain ⟨rfl, rfl, rfl⟩ := fk_none HF.out hf.out.symm hN
      replace hN := hid hN
      obtain ⟨⟨r0, r1, r2⟩, y0, y1, y2⟩ := w3_facts VR.out
      have hset := hid (w3_set (x' := .int .i64 4) (y' := .int .i64 0) (z' := .slice none 0 0) VR.out)
      have hbel := hid (w3_below (g := g1) (x := .int .i64 4) (y := .int .i64 0) (z := .slice none 0 0) BB.out LG.out)
      go_wp2
      try simp only [Exit.inBlock, Exit.then]
      exact bodyPost_ret (v := .agg #[.int .i64 4, .int .i64 0, .slice none 0 0]) (results_cell_row rfl _ _ g1 50 _ _ _ rfl hset.out Try.underlying50 rfl (by kernel_rfl)) rfl ⟨_, rfl, Rd.nil _, hbel.out⟩
    · obtain ⟨rfl, rfl, rfl⟩ := fk_found HF.out hf.out.symm i hi he hn
      subst he
      replace hn := hid hn
      have i0 : ¬ ((i : Int) < 0) := by omega
      go_wp2_with fail
      refine (l4copy g p _ ks _ VA.out H.out K16.out (by omega)).mono ?_
      rintro e w3 ⟨v', rfl, hO, hB⟩
      have LW := hid (show g1 < w2.heap.size from var_lt VR.out)
      replace VA := hid (var_below hB VA.out)
      replace VR := hid (var_below hB VR.out)
      replace H := hid (H.out.below hB)
      replace BB := hid (BB.out.trans (hB.mono BB.out.size))
      clear hB
      obtain ⟨L, h1, h2, h3, -⟩ := hO
      obtain ⟨u, q1, q2, q3, -⟩ := h3 i hi
      rcases h1.2 with ⟨rfl, hz⟩ | ⟨b, cv, cur, rfl, -⟩
      · omega
      have c1 := World.ownsRow.cellAt h1 (i * 2) (by omega)
      have c2 := World.ownsRow.cellAt h1 (i * 2 + 1) (by omega)
      rw [q1] at c1
      rw [q2] at c2
      have OU := hid q3
      obtain ⟨pu, cu, rfl, -, -, -⟩ := q3.rd.parts
      have I1 := idx_kc b 0 ks.length cv i hi
      rw [Nat.zero_add] at I1
      have k0 : (0 : Int) ≤ (i : Int) := by omega
      have kk : (i : Int) < (ks.length : Int) := by omega
      have hf1 := fldR
      have K2 := hid K16.out
      clear h1 h2 h3 q1 q2 q3
      obtain ⟨n, hn9⟩ : ∃ n, n = (ks[i]).2.length := ⟨_, rfl⟩
      obtain ⟨idd, hid9⟩ : ∃ x, x = (ks[i]).1 := ⟨_, rfl⟩
      rw [← hn9] at c2 OU
      rw [← hid9] at c1 ⊢
      replace hn9 := hid hn9
      replace hid9 := hid hid9
      obtain ⟨⟨r0, r1, r2⟩, y0, y1, y2⟩ := w3_facts VR.out
      have hset := hid (w3_set (x' := .int .i64 0) (y' := .int .i64 idd) (z' := .slice pu n cu) VR.out)
      have hbel := hid (w3_below (g := g1) (x := .int .i64 0) (y := .int .i64 idd) (z := .slice pu n cu) BB.out LG.out)
      go_wp2
      try simp only [Exit.inBlock, Exit.then]
      exact bodyPost_ret (v := .agg #[.int .i64 0, .int .i64 idd, .slice pu n cu]) (results_cell_row rfl _ _ g1 50 _ _ _ rfl hset.out Try.underlying50 rfl (by kernel_rfl)) rfl ⟨_, congrArg (fun z => Ending.returned (.agg #[.int .i64 0, .int .i64 z, .slice pu n cu])) hid9.out, (((OU.out.under ⟨g1, 0, none⟩ LW.out _).under ⟨g1, 1, none⟩ LW.out _).under ⟨g1, 2, none⟩ LW.out _).rd, hbel.out⟩
  · obtain ⟨hc, rfl, rfl⟩ := fk_bad HF.out (fun q => h0 (hf.trans q))
    rw [← hf] at hc
    subst hc
    replace hf := hid hf
    have ne : (c != 0) = true := by rw [bne_iff_ne]; exact h0
    replace h0 := hid h0
    obtain ⟨⟨r0, r1, r2⟩, y0, y1, y2⟩ := w3_facts VR.out
    have hset := hid (w3_set (x' := .int .i64 c) (y' := .int .i64 0) (z' := .slice none 0 0) VR.out)
    have hbel := hid (w3_below (g := g1) (x := .int .i64 c) (y := .int .i64 0) (z := .slice none 0 0) BB.out LG.out)
    go_wp2
    try simp only [Exit.inBlock, Exit.then]
    exact bodyPost_ret (v := .agg #[.int .i64 c, .int .i64 0, .slice none 0 0]) (results_cell_row rfl _ _ g1 50 _ _ _ rfl hset.out Try.underlying50 rfl (by kernel_rfl)) rfl ⟨_, rfl, Rd.nil _, hbel.out⟩
end Go.Proofs.Ytbfdbicddmffnab.W

namespace Go.Proofs.Ytbfdbicddmffnab.M
open Go.RowKit
theorem rdk_blocks {w w' : World} {v : Value} {t : List (Int × List Nat)} (h : RdK w v t) (hw : ∀ b, b < w.heap.size → w'.heap[b]? = w.heap[b]?) : RdK w' v t := by
  have hc : ∀ b o x, w.cell? ⟨b, o, none⟩ = some x → w'.cell? ⟨b, o, none⟩ = some x := fun b o x q => by
    rw [← q]
    have e := hw b (World.block_lt_of_cell? w _ q)
    simp only [World.cell?, e]
  obtain ⟨a, cap, rfl, h1, h2, h3⟩ := h
  refine ⟨a, cap, rfl, h1, h2, fun i hi => ?_⟩
  obtain ⟨b, o, u, rfl, q1, q2, q3⟩ := h3 i hi
  obtain ⟨a', c', rfl, r1, r2, r3⟩ := q3
  refine ⟨b, o, _, rfl, hc _ _ _ q1, hc _ _ _ q2, ⟨a', c', rfl, r1, r2, fun j hj => ?_⟩⟩
  obtain ⟨b', o', rfl, hx⟩ := r3 j hj
  exact ⟨b', o', rfl, hc _ _ _ hx⟩
/-- The keys are read, whatever lies below base. -/
def FarK (w : World) (base : Nat) (v : Value) (t : List (Int × List Nat)) : Prop := ∀ w' : World, (∀ b, base ≤ b → w'.heap[b]? = w.heap[b]?) → RdK w' v t
theorem FarK.rd {w : World} {base : Nat} {v : Value} {t : List (Int × List Nat)} (h : FarK w base v t) : RdK w v t := h w fun _ _ => rfl
theorem FarK.far {w : World} {base : Nat} {v : Value} {t : List (Int × List Nat)} (h : FarK w base v t) : FarK w base v t := h
theorem FarK.mono {w : World} {b0 base : Nat} {v : Value} {t : List (Int × List Nat)} (h : FarK w base v t) (hb : b0 ≤ base) : FarK w b0 v t := fun w' hw => h w' fun b q => hw b (Nat.le_trans hb q)
theorem FarK.nil (w : World) (base : Nat) : FarK w base (.slice none 0 0) [] := fun _ _ => RdK.nil _
theorem OKs.far {w : World} {lo hi : Nat} {v : Value} {t : List (Int × List Nat)} (h : OKs w lo hi v t) : FarK w lo v t := fun w' hw => (h.agr (w' := w') (fun b h1 _ => hw b h1)).rd
/-- The keys are read, whatever lies in block g. -/
def RdF (w : World) (g : Nat) (v : Value) (t : List (Int × List Nat)) : Prop := ∀ w' : World, (∀ b, b ≠ g → w'.heap[b]? = w.heap[b]?) → RdK w' v t
theorem rdF_far {w : World} {base g : Nat} {v : Value} {t : List (Int × List Nat)} (h : FarK w base v t) (hg : g < base) : RdF w g v t := fun w' hw => h w' fun b hb => hw b (by omega)
theorem rdF_new {w : World} {v : Value} {t : List (Int × List Nat)} (h : RdK w v t) (o : Obj) : RdF (w.alloc o) w.heap.size v t := fun w' hw => rdk_blocks h fun b hb => (hw b (by omega)).trans ((below_alloc1 w o).block b hb)
theorem rdF_set3 {w : World} {g : Nat} {v : Value} {t : List (Int × List Nat)} {x' y' z' : Value} (h : RdF w g v t) : RdK (((w.setCell ⟨g, 0, none⟩ x').setCell ⟨g, 1, none⟩ y').setCell ⟨g, 2, none⟩ z') v t :=
  h _ fun _ hb => (Below.heap_setCell _ _ _ _ hb).trans ((Below.heap_setCell _ _ _ _ hb).trans (Below.heap_setCell _ _ _ _ hb))
end Go.Proofs.Ytbfdbicddmffnab.M
