/-
  A ring's copy: what the model's l4Copy answers.
-/
import Derived.Test.YtifgcffifffdnajKsA
import Derived.Test.YtifgcffifffdnajCopyR
namespace Go.Proofs.Ytifgcffifffdnaj.W
open Go.ChangeShapes Go.WideShapes Go.ChangeAt Go.RowKit
open Go.Proofs.Ytifgcffifffdnaj.M

theorem idx_kc (b o n c j : Nat) (hj : j < n) (w : World) : (Instr.indexAt 32 (.slice (some ⟨b, o, none⟩) n c) (.int .i64 (j : Int))).run Try.prog w = .ok (.pointer (some ⟨b, o + j * 2, none⟩)) w := by
  have hs : ∀ w : World, (sizeOf (Try.prog.elem 32)).run Try.prog w = .ok 2 w := fun _ => by kernel_rfl
  rw [run_indexAt_slice (P := Try.prog) w 32 _ n c .i64 (j : Int) (by kernel_rfl)]
  simp [hs, hj, Result.andThen, Addr.add_lit]
theorem cellS1 {w : World} {g : Nat} {x y y' : Value} {T : TypeId} (h : w.heap[g]? = some (.cells #[x, y] T)) : (w.setCell ⟨g, 1, none⟩ y').heap[g]? = some (.cells #[x, y'] T) := by
  have h1 := heap_setCell_same w g 1 _ T y' h
  simpa using h1
theorem var_other1 {w : World} {g : Nat} {o : Obj} (h : w.heap[g]? = some o) (a : Addr) (x : Value) (hne : g ≠ a.block) : (w.setCell a x).heap[g]? = some o := by
  rw [Below.heap_setCell _ _ _ _ hne]; exact h
theorem size_set1 (w : World) (a : Addr) (x : Value) : (w.setCell a x).heap.size = w.heap.size := by simp [World.setCell]
theorem rdk_blk {w : World} {b o n c : Nat} {ks : List (Int × List Nat)} (h : RdK w (.slice (some ⟨b, o, none⟩) n c) ks) (k : Nat) (hk : k < ks.length) : b < w.heap.size := by
  obtain ⟨a, cap, e, -, -, hcs⟩ := h
  obtain ⟨b', o', u, e', h1, -, -⟩ := hcs k hk
  subst e'
  cases e
  exact World.block_lt_of_cell? w _ h1
set_option maxHeartbeats 2000000 in
set_option maxRecDepth 100000 in
theorem l4copy (g : Nat) (p : Int) (v : Value) (ks : List (Int × List Nat)) (w : World) (hV : w.heap[g]? = some (.cells #[.int .i64 p, v] 34)) (h : RdK w v ks) (h16 : ∀ i (hi : i < ks.length), (ks[i]).2.length = 16) (hl : ks.length ≤ 1048576) :
    Calls Try.prog 38 #[.pointer (some ⟨g, 0, none⟩)] w fun e w' => ∃ v', e = .returned (.agg #[.int .i64 p, v']) ∧ OKs w' w.heap.size w'.heap.size v' ks ∧ Below w.heap.size w w' := by
  have H := hid h
  have V := hid hV
  have L16 := hid h16
  obtain ⟨a, cap, rfl, -, -, -⟩ := h.parts
  clear h hV h16
  obtain ⟨f0, f1, -, -⟩ := var2_facts V.out
  have F0 := fun x => cell_alloc f0 x
  clear f0 f1
  have V0 := hid (heap_alloc2_old w (.cells #[.int .i64 0, .slice none 0 0] 34) (.cells #[.int .i64 p, .slice none 0 0] 34))
  have V1 := hid (heap_alloc2_new w (.cells #[.int .i64 0, .slice none 0 0] 34) (.cells #[.int .i64 p, .slice none 0 0] 34))
  have BB := hid (below_alloc2 w (.cells #[.int .i64 0, .slice none 0 0] 34) (.cells #[.int .i64 p, .slice none 0 0] 34))
  have SZ := hid (show ((w.alloc (.cells #[.int .i64 0, .slice none 0 0] 34)).alloc (.cells #[.int .i64 p, .slice none 0 0] 34)).heap.size = w.heap.size + 2 by simp)
  go_enter Try.func38, Try.ntmps38
  go_wp2_with fail
  clear F0
  generalize (w.alloc (.cells #[.int .i64 0, .slice none 0 0] 34)).alloc (.cells #[.int .i64 p, .slice none 0 0] 34) = w0 at *
  obtain ⟨g1, hg1⟩ : ∃ g, g = w.heap.size + 1 := ⟨_, rfl⟩
  obtain ⟨g0, hg0⟩ : ∃ g, g = w.heap.size := ⟨_, rfl⟩
  rw [← hg1] at V1 ⊢
  rw [← hg0] at V0 ⊢
  replace hg1 := hid hg1
  replace hg0 := hid hg0
  go_loopw [4] (fun i wr => ∃ k : Nat, ∃ v : Value, k ≤ ks.length ∧ i = .int .i64 k ∧ Hid (wr.heap[g1]? = some (.cells #[.int .i64 p, v] 34)) ∧ Hid (wr.heap[g0]? = some (.cells #[.int .i64 0, .slice none 0 0] 34)) ∧ Hid (OKs wr w0.heap.size wr.heap.size v (ks.take k)) ∧ Hid (Below w.heap.size w wr) ∧ Hid (w0.heap.size ≤ wr.heap.size)) (fun i _ => ks.length - (intOf i).toNat)
  case atStart => exact ⟨0, _, by omega, rfl, V1, V0, hid (OKs.nil _ _ _), BB, hid (Nat.le_refl _)⟩
  case round =>
    obtain ⟨k, vv, hk, rfl, V1, V0, OK, BL, SL⟩ := hrel
    have VG := hid (var_below BL.out V.out)
    have HK := hid (H.out.below BL.out)
    by_cases hlt : k < ks.length
    · obtain ⟨a', ca', e, -, -, hcs⟩ := HK.out.parts
      cases e
      obtain ⟨b, o, u, rfl, q1, q2, q3⟩ := hcs k hlt
      replace H := H
      have N16 := hid (L16.out k hlt)
      obtain ⟨pu, cu, rfl, -, -, -⟩ := q3.parts
      rw [N16.out] at q2 q3
      have RU := hid q3
      obtain ⟨f0, f1, -, -⟩ := var2_facts VG.out
      have LB := hid (show b < g0 from hg0.out ▸ rdk_blk H.out k hlt)
      have LF := hid (show g < g0 from hg0.out ▸ var_lt V.out)
      have L1 := hid (show g1 < w0.heap.size by rw [hg1.out, SZ.out]; omega)
      have L0 := hid (show g0 < w0.heap.size by rw [hg0.out, SZ.out]; omega)
      have LG := hid (Nat.le_of_lt L0.out)
      have SG := hid (Nat.le_trans LG.out SL.out)
      have NE := hid (show g0 ≠ g1 by rw [hg0.out, hg1.out]; omega)
      have G01 := hid (show g0 ≤ g1 by rw [hg0.out, hg1.out]; omega)
      have TK := hid (List.take_succ_eq_append_getElem hlt)
      have I1 := idx_kc b o ks.length cap k hlt
      have k0 : (0 : Int) ≤ (k : Int) := by omega
      have k1 : (k : Int) < (ks.length : Int) := by omega
      clear hcs q3 HK
      go_wp2_with fail
      refine wp_region_held_drew (S := fun w' => Below g0 wr w') (by kernel_rfl) (Below.refl _ _).drew (fun hH => ?_)
      replace V1 := hid (show wr.drew.heap[g1]? = _ from V1.out)
      replace V0 := hid (show wr.drew.heap[g0]? = _ from V0.out)
      replace OK := hid (show OKs wr.drew _ _ _ _ from OK.out)
      replace RU := hid (show Rd wr.drew _ _ from RU.out)
      generalize wr.drew = x at hH V1 V0 OK RU ⊢
      refine wpAnyH_take (i := 0) (v := .pointer (some ⟨g1, 1, none⟩)) (by simp only [List.getElem?_toArray, List.getElem?_cons_zero]; rfl) (by kernel_rfl) (by kernel_rfl) (by kernel_rfl) (by intro _ _ _ h; exact h) (Or.inl ⟨by rfl, fun w hS => by go_simp⟩) hH ?_
      simp only [Act.put, List.setIfInBounds_toArray, List.set_cons_zero, List.set_cons_succ]
      refine wpAnyH_take (i := 2) (v := .pointer (some ⟨g, 0, none⟩)) (by simp only [List.getElem?_toArray, List.getElem?_cons_succ, List.getElem?_cons_zero]; rfl) (by kernel_rfl) (by kernel_rfl) (by kernel_rfl) (by intro _ _ _ h; exact h) (Or.inl ⟨by rfl, fun w hS => by go_simp⟩) hH ?_
      simp only [Act.put, List.setIfInBounds_toArray, List.set_cons_zero, List.set_cons_succ]
      refine wpAnyH_take (i := 3) (v := .pointer (some ⟨g, 0, none⟩)) (by simp only [List.getElem?_toArray, List.getElem?_cons_succ, List.getElem?_cons_zero]; rfl) (by kernel_rfl) (by kernel_rfl) (by kernel_rfl) (by intro _ _ _ h; exact h) (Or.inl ⟨by rfl, fun w hS => by go_simp⟩) hH ?_
      simp only [Act.put, List.setIfInBounds_toArray, List.set_cons_zero, List.set_cons_succ]
      refine wpAnyH_take (i := 4) (v := .pointer (some ⟨g, 1, none⟩)) (by simp only [List.getElem?_toArray, List.getElem?_cons_succ, List.getElem?_cons_zero]; rfl) (by kernel_rfl) (by kernel_rfl) (by kernel_rfl) (by intro _ _ _ h; exact h) (Or.inl ⟨by rfl, fun w hS => by go_simp⟩) hH ?_
      simp only [Act.put, List.setIfInBounds_toArray, List.set_cons_zero, List.set_cons_succ]
      refine wpAnyH_take (i := 5) (v := .slice (some ⟨b, o, none⟩) ks.length cap) (by simp only [List.getElem?_toArray, List.getElem?_cons_succ, List.getElem?_cons_zero]; rfl) (by kernel_rfl) (by kernel_rfl) (by kernel_rfl) (by intro _ _ _ h; exact h) (Or.inl ⟨by rfl, fun w hS => by (have y := cell_low hS f1 LF.out; go_simp)⟩) hH ?_
      simp only [Act.put, List.setIfInBounds_toArray, List.set_cons_zero, List.set_cons_succ]
      refine wpAnyH_take (i := 6) (v := .int .i64 (k : Int)) (by simp only [List.getElem?_toArray, List.getElem?_cons_succ, List.getElem?_cons_zero]; rfl) (by kernel_rfl) (by kernel_rfl) (by kernel_rfl) (by intro _ _ _ h; exact h) (Or.inl ⟨by rfl, fun w hS => by go_simp⟩) hH ?_
      simp only [Act.put, List.setIfInBounds_toArray, List.set_cons_zero, List.set_cons_succ]
      refine wpAnyH_take (i := 7) (v := .pointer (some ⟨b, o + k * 2, none⟩)) (by simp only [List.getElem?_toArray, List.getElem?_cons_succ, List.getElem?_cons_zero]; rfl) (by kernel_rfl) (by kernel_rfl) (by kernel_rfl) (by intro _ _ _ h; exact h) (Or.inl ⟨by rfl, fun w hS => by go_simp⟩) hH ?_
      simp only [Act.put, List.setIfInBounds_toArray, List.set_cons_zero, List.set_cons_succ]
      refine wpAnyH_take (i := 8) (v := .pointer (some ⟨b, o + k * 2, none⟩)) (by simp only [List.getElem?_toArray, List.getElem?_cons_succ, List.getElem?_cons_zero]; rfl) (by kernel_rfl) (by kernel_rfl) (by kernel_rfl) (by intro _ _ _ h; exact h) (Or.inl ⟨by rfl, fun w hS => by go_simp⟩) hH ?_
      simp only [Act.put, List.setIfInBounds_toArray, List.set_cons_zero, List.set_cons_succ]
      refine wpAnyH_take (i := 9) (v := .int .i64 (ks[k]).1) (by simp only [List.getElem?_toArray, List.getElem?_cons_succ, List.getElem?_cons_zero]; rfl) (by kernel_rfl) (by kernel_rfl) (by kernel_rfl) (by intro _ _ _ h; exact h) (Or.inl ⟨by rfl, fun w hS => by (have y := cell_low hS q1 LB.out; go_simp)⟩) hH ?_
      simp only [Act.put, List.setIfInBounds_toArray, List.set_cons_zero, List.set_cons_succ]
      refine wpAnyH_take (i := 10) (v := .pointer (some ⟨g, 0, none⟩)) (by simp only [List.getElem?_toArray, List.getElem?_cons_succ, List.getElem?_cons_zero]; rfl) (by kernel_rfl) (by kernel_rfl) (by kernel_rfl) (by intro _ _ _ h; exact h) (Or.inl ⟨by rfl, fun w hS => by go_simp⟩) hH ?_
      simp only [Act.put, List.setIfInBounds_toArray, List.set_cons_zero, List.set_cons_succ]
      refine wpAnyH_take (i := 11) (v := .pointer (some ⟨g, 0, none⟩)) (by simp only [List.getElem?_toArray, List.getElem?_cons_succ, List.getElem?_cons_zero]; rfl) (by kernel_rfl) (by kernel_rfl) (by kernel_rfl) (by intro _ _ _ h; exact h) (Or.inl ⟨by rfl, fun w hS => by go_simp⟩) hH ?_
      simp only [Act.put, List.setIfInBounds_toArray, List.set_cons_zero, List.set_cons_succ]
      refine wpAnyH_take (i := 12) (v := .pointer (some ⟨g, 1, none⟩)) (by simp only [List.getElem?_toArray, List.getElem?_cons_succ, List.getElem?_cons_zero]; rfl) (by kernel_rfl) (by kernel_rfl) (by kernel_rfl) (by intro _ _ _ h; exact h) (Or.inl ⟨by rfl, fun w hS => by go_simp⟩) hH ?_
      simp only [Act.put, List.setIfInBounds_toArray, List.set_cons_zero, List.set_cons_succ]
      refine wpAnyH_take (i := 13) (v := .slice (some ⟨b, o, none⟩) ks.length cap) (by simp only [List.getElem?_toArray, List.getElem?_cons_succ, List.getElem?_cons_zero]; rfl) (by kernel_rfl) (by kernel_rfl) (by kernel_rfl) (by intro _ _ _ h; exact h) (Or.inl ⟨by rfl, fun w hS => by (have y := cell_low hS f1 LF.out; go_simp)⟩) hH ?_
      simp only [Act.put, List.setIfInBounds_toArray, List.set_cons_zero, List.set_cons_succ]
      refine wpAnyH_take (i := 14) (v := .int .i64 (k : Int)) (by simp only [List.getElem?_toArray, List.getElem?_cons_succ, List.getElem?_cons_zero]; rfl) (by kernel_rfl) (by kernel_rfl) (by kernel_rfl) (by intro _ _ _ h; exact h) (Or.inl ⟨by rfl, fun w hS => by go_simp⟩) hH ?_
      simp only [Act.put, List.setIfInBounds_toArray, List.set_cons_zero, List.set_cons_succ]
      refine wpAnyH_take (i := 15) (v := .pointer (some ⟨b, o + k * 2, none⟩)) (by simp only [List.getElem?_toArray, List.getElem?_cons_succ, List.getElem?_cons_zero]; rfl) (by kernel_rfl) (by kernel_rfl) (by kernel_rfl) (by intro _ _ _ h; exact h) (Or.inl ⟨by rfl, fun w hS => by go_simp⟩) hH ?_
      simp only [Act.put, List.setIfInBounds_toArray, List.set_cons_zero, List.set_cons_succ]
      refine wpAnyH_take (i := 16) (v := .pointer (some ⟨b, o + k * 2 + 1, none⟩)) (by simp only [List.getElem?_toArray, List.getElem?_cons_succ, List.getElem?_cons_zero]; rfl) (by kernel_rfl) (by kernel_rfl) (by kernel_rfl) (by intro _ _ _ h; exact h) (Or.inl ⟨by rfl, fun w hS => by go_simp⟩) hH ?_
      simp only [Act.put, List.setIfInBounds_toArray, List.set_cons_zero, List.set_cons_succ]
      refine wpAnyH_take (i := 17) (v := .slice pu 16 cu) (by simp only [List.getElem?_toArray, List.getElem?_cons_succ, List.getElem?_cons_zero]; rfl) (by kernel_rfl) (by kernel_rfl) (by kernel_rfl) (by intro _ _ _ h; exact h) (Or.inl ⟨by rfl, fun w hS => by (have y := cell_low hS q2 LB.out; go_simp)⟩) hH ?_
      simp only [Act.put, List.setIfInBounds_toArray, List.set_cons_zero, List.set_cons_succ]
      refine wpAnyH_ready (rs := [1, 18]) (by kernel_rfl) (by simp) ?_
      refine AllReadyH.cons (by simp only [List.getElem?_toArray, List.getElem?_cons_succ, List.getElem?_cons_zero]; rfl) (fun K hK => ?_) ?_
      · obtain ⟨q_0, q_1, -, -⟩ := var2_facts V1.out
        go_simp
        refine hK.out _ _ hH (fun hH => ?_)
        clear hK K q_0 q_1
        try simp only [Act.put, List.setIfInBounds_toArray, List.set_cons_zero, List.set_cons_succ]
        refine wpAnyH_ready (rs := [18]) (by kernel_rfl) (by simp) ?_
        refine AllReadyH.cons (by simp only [List.getElem?_toArray, List.getElem?_cons_succ, List.getElem?_cons_zero]; rfl) (fun K hK => ?_) AllReadyH.nil
        go_simp
        refine (copyR _ (ks[k]).2 16 _ RU.out N16.out (by omega) (by omega)).mono ?_
        rintro e x18 ⟨vc, rfl, hO, hM⟩
        obtain ⟨pc, kc, rfl, -, -, -⟩ := hO.rd.parts
        have SB := hid hH.size
        refine hK.out _ _ (hH.trans (hM.mono (Nat.le_trans SG.out hH.size))) (fun hH => ?_)
        clear hK K
        replace V1 := hid (var_below hM V1.out)
        replace V0 := hid (var_below hM V0.out)
        replace OK := hid (OK.out.below hM)
        replace RU := hid (RU.out.below hM)
        have OU := hid ((OB.of hO.x).mono SB.out (Nat.le_refl _))
        clear hM SB
        refine wpAnyH_take (i := 19) (v := .agg #[.int .i64 (ks[k]).1, .slice pc (ks[k]).2.length kc]) (by simp only [List.getElem?_toArray, List.getElem?_cons_succ, List.getElem?_cons_zero]; rfl) (by kernel_rfl) (by kernel_rfl) (by kernel_rfl) (by intro _ _ _ h; exact h) (Or.inl ⟨by rfl, fun w hS => by go_simp⟩) hH ?_
        simp only [Act.put, List.setIfInBounds_toArray, List.set_cons_zero, List.set_cons_succ]
        refine wpAnyH_ready (rs := [20]) (by kernel_rfl) (by simp) ?_
        refine AllReadyH.cons (by simp only [List.getElem?_toArray, List.getElem?_cons_succ, List.getElem?_cons_zero]; rfl) (fun K hK => ?_) AllReadyH.nil
        go_simp
        have hM := below_alloc1 x18 (.cells #[.int .i64 (ks[k]).1, .slice pc (ks[k]).2.length kc] 28)
        replace V1 := hid (var_below hM V1.out)
        replace V0 := hid (var_below hM V0.out)
        replace OK := hid (OK.out.below hM)
        replace RU := hid (RU.out.below hM)
        replace OU := hid (OU.out.below hM)
        have VX := hid (heap_alloc_new x18 (.cells #[.int .i64 (ks[k]).1, .slice pc (ks[k]).2.length kc] 28))
        refine hK.out _ _ (hH.alloc (Nat.le_trans SG.out hH.size) _) (fun hH => ?_)
        clear hK K hM
        generalize x18.alloc (.cells #[.int .i64 (ks[k]).1, .slice pc (ks[k]).2.length kc] 28) = x20 at *
        refine wpAnyH_ready (rs := [21]) (by kernel_rfl) (by simp) ?_
        refine AllReadyH.cons (by simp only [List.getElem?_toArray, List.getElem?_cons_succ, List.getElem?_cons_zero]; rfl) (fun K hK => ?_) AllReadyH.nil
        obtain ⟨c0, c1, -, -⟩ := var2_facts VX.out
        refine step_appK (by rfl) _ _ (by rfl) _ _ (ks.take k) w0.heap.size wr.heap.size x18.heap.size 1 (ks[k]).1 (ks[k]).2 (by rfl) (by rfl) OK.out hH.size SL.out c0 c1 rfl (OB.of OU.out.1) (by rw [List.length_take]; omega) ?_
        intro g2 cap2 x21 hO hG
        rw [List.length_take_of_le hk] at hO ⊢
        have OK2 := hid hO
        have V12 := hid (var_grown hG V1.out (fun e => absurd (OK.out.row (Nat.le_refl _) _ e.symm) (Nat.not_le_of_lt L1.out)))
        have V02 := hid (var_grown hG V0.out (fun e => absurd (OK.out.row (Nat.le_refl _) _ e.symm) (Nat.not_le_of_lt L0.out)))
        refine hK.out _ _ (hH.grown hG (Nat.le_trans SG.out hH.size) (OK.out.row LG.out)) (fun hH => ?_)
        clear hK K hO hG c0 c1 VX OK OU V1 V0
        refine wpAnyH_take (i := 22) (v := .pointer (some ⟨g1, 1, none⟩)) (by simp only [List.getElem?_toArray, List.getElem?_cons_succ, List.getElem?_cons_zero]; rfl) (by kernel_rfl) (by kernel_rfl) (by kernel_rfl) (by intro _ _ _ h; exact h) (Or.inl ⟨by rfl, fun w hS => by go_simp⟩) hH ?_
        simp only [Act.put, List.setIfInBounds_toArray, List.set_cons_zero, List.set_cons_succ]
        refine wpAnyH_ready (rs := [23]) (by kernel_rfl) (by simp) ?_
        refine AllReadyH.cons (by simp only [List.getElem?_toArray, List.getElem?_cons_succ, List.getElem?_cons_zero]; rfl) (fun K hK => ?_) AllReadyH.nil
        obtain ⟨e0, e1, e2, e3⟩ := var2_facts V12.out
        go_simp
        have V13 := hid (cellS1 (y' := .slice (some ⟨g2, 0, none⟩) (k + 1) cap2) V12.out)
        have V03 := hid (var_other1 V02.out ⟨g1, 1, none⟩ (.slice (some ⟨g2, 0, none⟩) (k + 1) cap2) NE.out)
        have OK3 := hid (OK2.out.low ⟨g1, 1, none⟩ L1.out (.slice (some ⟨g2, 0, none⟩) (k + 1) cap2))
        refine hK.out _ _ (hH.setCell (p := ⟨g1, 1, none⟩) G01.out _) (fun hH => ?_)
        clear hK K e0 e1 e2 e3 V12 V02 OK2
        refine wpAnyH_done (by kernel_rfl) ?_ _
        have BN := hid (BL.out.trans (hg0.out ▸ hH))
        have SN := hid (Nat.le_trans SL.out hH.size)
        clear hH
        go_wp2
        go_roundw
        case rel => exact ⟨k + 1, _, hlt, by go_num, V13, V03, hid (by rw [TK.out]; exact OK3.out.mono (Nat.le_refl _) (Nat.le_of_eq (size_set1 _ _ _).symm)), BN, SN⟩
        case measure => simp [intOf]; omega
      refine AllReadyH.cons (by simp only [List.getElem?_toArray, List.getElem?_cons_succ, List.getElem?_cons_zero]; rfl) (fun K hK => ?_) ?_
      · go_simp
        refine (copyR _ (ks[k]).2 16 _ RU.out N16.out (by omega) (by omega)).mono ?_
        rintro e x18 ⟨vc, rfl, hO, hM⟩
        obtain ⟨pc, kc, rfl, -, -, -⟩ := hO.rd.parts
        have SB := hid hH.size
        refine hK.out _ _ (hH.trans (hM.mono (Nat.le_trans SG.out hH.size))) (fun hH => ?_)
        clear hK K
        replace V1 := hid (var_below hM V1.out)
        replace V0 := hid (var_below hM V0.out)
        replace OK := hid (OK.out.below hM)
        replace RU := hid (RU.out.below hM)
        have OU := hid ((OB.of hO.x).mono SB.out (Nat.le_refl _))
        clear hM SB
        refine wpAnyH_take (i := 19) (v := .agg #[.int .i64 (ks[k]).1, .slice pc (ks[k]).2.length kc]) (by simp only [List.getElem?_toArray, List.getElem?_cons_succ, List.getElem?_cons_zero]; rfl) (by kernel_rfl) (by kernel_rfl) (by kernel_rfl) (by intro _ _ _ h; exact h) (Or.inl ⟨by rfl, fun w hS => by go_simp⟩) hH ?_
        simp only [Act.put, List.setIfInBounds_toArray, List.set_cons_zero, List.set_cons_succ]
        refine wpAnyH_ready (rs := [1, 20]) (by kernel_rfl) (by simp) ?_
        refine AllReadyH.cons (by simp only [List.getElem?_toArray, List.getElem?_cons_succ, List.getElem?_cons_zero]; rfl) (fun K hK => ?_) ?_
        · obtain ⟨q_0, q_1, -, -⟩ := var2_facts V1.out
          go_simp
          refine hK.out _ _ hH (fun hH => ?_)
          clear hK K q_0 q_1
          try simp only [Act.put, List.setIfInBounds_toArray, List.set_cons_zero, List.set_cons_succ]
          refine wpAnyH_ready (rs := [20]) (by kernel_rfl) (by simp) ?_
          refine AllReadyH.cons (by simp only [List.getElem?_toArray, List.getElem?_cons_succ, List.getElem?_cons_zero]; rfl) (fun K hK => ?_) AllReadyH.nil
          go_simp
          have hM := below_alloc1 x18 (.cells #[.int .i64 (ks[k]).1, .slice pc (ks[k]).2.length kc] 28)
          replace V1 := hid (var_below hM V1.out)
          replace V0 := hid (var_below hM V0.out)
          replace OK := hid (OK.out.below hM)
          replace RU := hid (RU.out.below hM)
          replace OU := hid (OU.out.below hM)
          have VX := hid (heap_alloc_new x18 (.cells #[.int .i64 (ks[k]).1, .slice pc (ks[k]).2.length kc] 28))
          refine hK.out _ _ (hH.alloc (Nat.le_trans SG.out hH.size) _) (fun hH => ?_)
          clear hK K hM
          generalize x18.alloc (.cells #[.int .i64 (ks[k]).1, .slice pc (ks[k]).2.length kc] 28) = x20 at *
          refine wpAnyH_ready (rs := [21]) (by kernel_rfl) (by simp) ?_
          refine AllReadyH.cons (by simp only [List.getElem?_toArray, List.getElem?_cons_succ, List.getElem?_cons_zero]; rfl) (fun K hK => ?_) AllReadyH.nil
          obtain ⟨c0, c1, -, -⟩ := var2_facts VX.out
          refine step_appK (by rfl) _ _ (by rfl) _ _ (ks.take k) w0.heap.size wr.heap.size x18.heap.size 1 (ks[k]).1 (ks[k]).2 (by rfl) (by rfl) OK.out hH.size SL.out c0 c1 rfl (OB.of OU.out.1) (by rw [List.length_take]; omega) ?_
          intro g2 cap2 x21 hO hG
          rw [List.length_take_of_le hk] at hO ⊢
          have OK2 := hid hO
          have V12 := hid (var_grown hG V1.out (fun e => absurd (OK.out.row (Nat.le_refl _) _ e.symm) (Nat.not_le_of_lt L1.out)))
          have V02 := hid (var_grown hG V0.out (fun e => absurd (OK.out.row (Nat.le_refl _) _ e.symm) (Nat.not_le_of_lt L0.out)))
          refine hK.out _ _ (hH.grown hG (Nat.le_trans SG.out hH.size) (OK.out.row LG.out)) (fun hH => ?_)
          clear hK K hO hG c0 c1 VX OK OU V1 V0
          refine wpAnyH_take (i := 22) (v := .pointer (some ⟨g1, 1, none⟩)) (by simp only [List.getElem?_toArray, List.getElem?_cons_succ, List.getElem?_cons_zero]; rfl) (by kernel_rfl) (by kernel_rfl) (by kernel_rfl) (by intro _ _ _ h; exact h) (Or.inl ⟨by rfl, fun w hS => by go_simp⟩) hH ?_
          simp only [Act.put, List.setIfInBounds_toArray, List.set_cons_zero, List.set_cons_succ]
          refine wpAnyH_ready (rs := [23]) (by kernel_rfl) (by simp) ?_
          refine AllReadyH.cons (by simp only [List.getElem?_toArray, List.getElem?_cons_succ, List.getElem?_cons_zero]; rfl) (fun K hK => ?_) AllReadyH.nil
          obtain ⟨e0, e1, e2, e3⟩ := var2_facts V12.out
          go_simp
          have V13 := hid (cellS1 (y' := .slice (some ⟨g2, 0, none⟩) (k + 1) cap2) V12.out)
          have V03 := hid (var_other1 V02.out ⟨g1, 1, none⟩ (.slice (some ⟨g2, 0, none⟩) (k + 1) cap2) NE.out)
          have OK3 := hid (OK2.out.low ⟨g1, 1, none⟩ L1.out (.slice (some ⟨g2, 0, none⟩) (k + 1) cap2))
          refine hK.out _ _ (hH.setCell (p := ⟨g1, 1, none⟩) G01.out _) (fun hH => ?_)
          clear hK K e0 e1 e2 e3 V12 V02 OK2
          refine wpAnyH_done (by kernel_rfl) ?_ _
          have BN := hid (BL.out.trans (hg0.out ▸ hH))
          have SN := hid (Nat.le_trans SL.out hH.size)
          clear hH
          go_wp2
          go_roundw
          case rel => exact ⟨k + 1, _, hlt, by go_num, V13, V03, hid (by rw [TK.out]; exact OK3.out.mono (Nat.le_refl _) (Nat.le_of_eq (size_set1 _ _ _).symm)), BN, SN⟩
          case measure => simp [intOf]; omega
        refine AllReadyH.cons (by simp only [List.getElem?_toArray, List.getElem?_cons_succ, List.getElem?_cons_zero]; rfl) (fun K hK => ?_) ?_
        · go_simp
          have hM := below_alloc1 x18 (.cells #[.int .i64 (ks[k]).1, .slice pc (ks[k]).2.length kc] 28)
          replace V1 := hid (var_below hM V1.out)
          replace V0 := hid (var_below hM V0.out)
          replace OK := hid (OK.out.below hM)
          replace RU := hid (RU.out.below hM)
          replace OU := hid (OU.out.below hM)
          have VX := hid (heap_alloc_new x18 (.cells #[.int .i64 (ks[k]).1, .slice pc (ks[k]).2.length kc] 28))
          refine hK.out _ _ (hH.alloc (Nat.le_trans SG.out hH.size) _) (fun hH => ?_)
          clear hK K hM
          generalize x18.alloc (.cells #[.int .i64 (ks[k]).1, .slice pc (ks[k]).2.length kc] 28) = x20 at *
          refine wpAnyH_ready (rs := [1]) (by kernel_rfl) (by simp) ?_
          refine AllReadyH.cons (by simp only [List.getElem?_toArray, List.getElem?_cons_succ, List.getElem?_cons_zero]; rfl) (fun K hK => ?_) AllReadyH.nil
          obtain ⟨q_0, q_1, -, -⟩ := var2_facts V1.out
          go_simp
          refine hK.out _ _ hH (fun hH => ?_)
          clear hK K q_0 q_1
          try simp only [Act.put, List.setIfInBounds_toArray, List.set_cons_zero, List.set_cons_succ]
          refine wpAnyH_ready (rs := [21]) (by kernel_rfl) (by simp) ?_
          refine AllReadyH.cons (by simp only [List.getElem?_toArray, List.getElem?_cons_succ, List.getElem?_cons_zero]; rfl) (fun K hK => ?_) AllReadyH.nil
          obtain ⟨c0, c1, -, -⟩ := var2_facts VX.out
          refine step_appK (by rfl) _ _ (by rfl) _ _ (ks.take k) w0.heap.size wr.heap.size x18.heap.size 1 (ks[k]).1 (ks[k]).2 (by rfl) (by rfl) OK.out hH.size SL.out c0 c1 rfl (OB.of OU.out.1) (by rw [List.length_take]; omega) ?_
          intro g2 cap2 x21 hO hG
          rw [List.length_take_of_le hk] at hO ⊢
          have OK2 := hid hO
          have V12 := hid (var_grown hG V1.out (fun e => absurd (OK.out.row (Nat.le_refl _) _ e.symm) (Nat.not_le_of_lt L1.out)))
          have V02 := hid (var_grown hG V0.out (fun e => absurd (OK.out.row (Nat.le_refl _) _ e.symm) (Nat.not_le_of_lt L0.out)))
          refine hK.out _ _ (hH.grown hG (Nat.le_trans SG.out hH.size) (OK.out.row LG.out)) (fun hH => ?_)
          clear hK K hO hG c0 c1 VX OK OU V1 V0
          refine wpAnyH_take (i := 22) (v := .pointer (some ⟨g1, 1, none⟩)) (by simp only [List.getElem?_toArray, List.getElem?_cons_succ, List.getElem?_cons_zero]; rfl) (by kernel_rfl) (by kernel_rfl) (by kernel_rfl) (by intro _ _ _ h; exact h) (Or.inl ⟨by rfl, fun w hS => by go_simp⟩) hH ?_
          simp only [Act.put, List.setIfInBounds_toArray, List.set_cons_zero, List.set_cons_succ]
          refine wpAnyH_ready (rs := [23]) (by kernel_rfl) (by simp) ?_
          refine AllReadyH.cons (by simp only [List.getElem?_toArray, List.getElem?_cons_succ, List.getElem?_cons_zero]; rfl) (fun K hK => ?_) AllReadyH.nil
          obtain ⟨e0, e1, e2, e3⟩ := var2_facts V12.out
          go_simp
          have V13 := hid (cellS1 (y' := .slice (some ⟨g2, 0, none⟩) (k + 1) cap2) V12.out)
          have V03 := hid (var_other1 V02.out ⟨g1, 1, none⟩ (.slice (some ⟨g2, 0, none⟩) (k + 1) cap2) NE.out)
          have OK3 := hid (OK2.out.low ⟨g1, 1, none⟩ L1.out (.slice (some ⟨g2, 0, none⟩) (k + 1) cap2))
          refine hK.out _ _ (hH.setCell (p := ⟨g1, 1, none⟩) G01.out _) (fun hH => ?_)
          clear hK K e0 e1 e2 e3 V12 V02 OK2
          refine wpAnyH_done (by kernel_rfl) ?_ _
          have BN := hid (BL.out.trans (hg0.out ▸ hH))
          have SN := hid (Nat.le_trans SL.out hH.size)
          clear hH
          go_wp2
          go_roundw
          case rel => exact ⟨k + 1, _, hlt, by go_num, V13, V03, hid (by rw [TK.out]; exact OK3.out.mono (Nat.le_refl _) (Nat.le_of_eq (size_set1 _ _ _).symm)), BN, SN⟩
          case measure => simp [intOf]; omega
        exact AllReadyH.nil
      exact AllReadyH.nil
    · have hke : k = ks.length := by omega
      subst hke
      rw [List.take_of_length_le (Nat.le_refl _)] at OK
      have L1 := hid (show g1 < w0.heap.size by rw [hg1.out, SZ.out]; omega)
      have L0 := hid (show g0 < w0.heap.size by rw [hg0.out, SZ.out]; omega)
      obtain ⟨pv, cv, rfl, -, -, -⟩ := OK.out.rd.parts
      obtain ⟨f0, f1, -, -⟩ := var2_facts VG.out
      obtain ⟨e0, e1, -, -⟩ := var2_facts V1.out
      obtain ⟨d0, d1, d2, d3⟩ := var2_facts V0.out
      obtain ⟨n, hn⟩ : ∃ n, n = ks.length := ⟨_, rfl⟩
      have OKF := hid (show OKs ((wr.setCell ⟨g0, 0, none⟩ (.int .i64 p)).setCell ⟨g0, 1, none⟩ (.slice pv ks.length cv)) w.heap.size ((wr.setCell ⟨g0, 0, none⟩ (.int .i64 p)).setCell ⟨g0, 1, none⟩ (.slice pv ks.length cv)).heap.size (.slice pv ks.length cv) ks from ((OK.out.low ⟨g0, 0, none⟩ L0.out _).low ⟨g0, 1, none⟩ L0.out _).mono (by rw [SZ.out]; omega) (by rw [size_set1, size_set1]; exact Nat.le_refl _))
      rw [← hn] at OKF e1 f1 ⊢
      have hset := hid (var2_set (x' := .int .i64 p) (y' := .slice pv n cv) V0.out)
      have hbel := hid (below_set2 (x := .int .i64 p) (y := .slice pv n cv) (g := g0) BL.out (Nat.le_of_eq hg0.out.symm))
      replace hn := hid hn
      go_wp2
      exact bodyPost_ret (v := .agg #[.int .i64 p, .slice pv n cv]) (results_cell_row rfl _ _ g0 34 _ _ _ rfl hset.out Try.underlying34 rfl (by kernel_rfl)) rfl ⟨_, rfl, OKF.out, hbel.out⟩
end Go.Proofs.Ytifgcffifffdnaj.W
