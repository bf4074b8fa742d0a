/-
  The exact law of MergeClaim, out of the contracts of its callees.
-/
import Derived.Test.YtpcndgmmdpgpmanVwMc
import Derived.Test.YtpcndgmmdpgpmanVwX
namespace Go.Proofs.Ytpcndgmmdpgpman.W
open Go.ChangeShapes Go.WideShapes Go.ChangeAt Go.RowKit
open Go.Proofs.Ytpcndgmmdpgpman.M

theorem split {A B C D E : Type} {P F : A → B → C → D → E → Prop} {G : Prop} (main : (∀ a b c d e, F a b c d e → P a b c d e) → G) (leaf : ∀ a b c d e, F a b c d e → P a b c d e) : G := main leaf
theorem rdC_set3 {w : World} {g : Nat} {v : Value} {cs : List Clm} {x0 y0 z0 : Value} {T : TypeId} (x y z : Value) (h : RdC w v cs) (hg : w.heap[g]? = some (.cells #[x0, y0, z0] T)) : RdC (((w.setCell ⟨g, 0, none⟩ x).setCell ⟨g, 1, none⟩ y).setCell ⟨g, 2, none⟩ z) v cs := by
  obtain ⟨a, cap, rfl, hn, hm, hcs⟩ := h
  refine ⟨a, cap, rfl, hn, hm, fun i hi => ?_⟩
  obtain ⟨b, o, rfl, h1⟩ := hcs i hi
  refine ⟨b, o, rfl, fun t x' q => ?_⟩
  have hne : b ≠ g := fun e => by
    subst e
    have h3 := h1 3 _ rfl
    rw [cell_of_row w b _ _ _ _ hg] at h3
    rw [Array.getElem?_eq_none (by simp)] at h3
    cases h3
  rw [World.cell?_of_block (w := w) (a := ⟨b, o + i * 4 + t, none⟩) (by rw [Below.heap_setCell _ _ _ _ hne, Below.heap_setCell _ _ _ _ hne, Below.heap_setCell _ _ _ _ hne])]
  exact h1 t x' q
theorem oc_set3 {w : World} {lo hi g : Nat} {v : Value} {cs : List Clm} (h : OC w lo hi v cs) (hg : g < lo ∨ hi ≤ g) (x y z : Value) : OC (((w.setCell ⟨g, 0, none⟩ x).setCell ⟨g, 1, none⟩ y).setCell ⟨g, 2, none⟩ z) lo hi v cs :=
  h.agr fun k h1 h2 => by
    have hne : k ≠ g := by omega
    rw [Below.heap_setCell _ _ _ _ hne, Below.heap_setCell _ _ _ _ hne, Below.heap_setCell _ _ _ _ hne]
set_option maxHeartbeats 8000000 in
set_option maxRecDepth 100000 in
theorem law_MergeClaim (C : Clm) (c : Int) (ct : Bool) (cs0 : List Clm) (l : List Clm) (a0 : Value) (w : World) (hl : l.length ≤ 1048576)
    (h0 : RdC w a0 cs0)
    (SP : Hid (∀ (w : World) (v0 : Value), cs0.length ≤ 1048576 → RdC w v0 cs0 → Calls Try.prog 36 #[v0, .agg #[.int .i64 C.n, .int .i64 C.i, .int .i64 C.s, .int .i64 C.m]] w fun e w' => ∃ v, e = .returned (.agg #[.int .i64 c, v, .bool ct]) ∧ RdC w' v l ∧ Below w.heap.size w w'))
    (IP : Hid (∀ (w : World) (v0 : Value), cs0.length ≤ 1048576 → RdC w v0 cs0 → Calls Try.prog 37 #[v0, .agg #[.int .i64 C.n, .int .i64 C.i, .int .i64 C.s, .int .i64 C.m]] w fun e w' => ∃ v, e = .returned (.agg #[.int .i64 c, v, .bool ct]) ∧ OC w' w.heap.size w'.heap.size v l ∧ Below w.heap.size w w')) :
    Calls Try.prog 8 #[a0, .agg #[.int .i64 C.n, .int .i64 C.i, .int .i64 C.s, .int .i64 C.m]] w fun e w' => e = .returned (.bool true) ∧ Below w.heap.size w w' := by
  have HA0 := hid h0
  have IQ := hid (fun (w : World) (v0 : Value) (hk : cs0.length ≤ 1048576) (h : RdC w v0 cs0) => (IP.out w v0 hk h).mono fun e w' ⟨v, r1, r2, r3⟩ => (⟨v, r1, r2.rd, r3⟩ : ∃ v, e = Ending.returned (.agg #[.int .i64 c, v, .bool ct]) ∧ RdC w' v l ∧ Below w.heap.size w w'))
  obtain ⟨b0, cap0, rfl, hlc, hcm, -⟩ := h0.parts
  have LM0 := hid (Nat.le_trans hlc hcm)
  clear h0 hlc hcm
  have BB := hid (Below.refl w.heap.size w)
  go_enter Try.func8, Try.ntmps8
  have VA := hid (heap_alloc_new w (.cells #[.int .i64 C.n, .int .i64 C.i, .int .i64 C.s, .int .i64 C.m] 46))
  replace BB := hid (below_alloc1 w (.cells #[.int .i64 C.n, .int .i64 C.i, .int .i64 C.s, .int .i64 C.m] 46))
  go_wp2_with fail
  generalize w.alloc (.cells #[.int .i64 C.n, .int .i64 C.i, .int .i64 C.s, .int .i64 C.m] 46) = w0 at *
  obtain ⟨ga, hga⟩ : ∃ g, g = w.heap.size := ⟨_, rfl⟩
  rw [← hga] at VA ⊢
  have ZA := hid (show ga < w0.heap.size from var_lt VA.out)
  clear hga
  have Z0 := hid BB.out.size
  refine (szCS _ cs0 1048576 _ (HA0.out.below BB.out) (by omega) (by omega)).mono ?_
  rintro e w1 ⟨rfl, hB⟩
  replace BB := hid (BB.out.trans (hB.mono BB.out.size))
  replace VA := hid (var_below hB VA.out)
  have Z1 := hid (And.intro Z0.out hB.size)
  clear hB
  by_cases hz0 : (1048576 : Int) < cs0.length
  · rw [show szC 1048576 cs0.length = -1 by rw [szC, if_pos hz0]]
    go_wp2
    go_ret
    exact ⟨rfl, BB.out⟩
  obtain ⟨lf0, e1⟩ : ∃ r, r = szC 1048576 cs0.length := ⟨_, rfl⟩
  have e1' : szC 1048576 cs0.length = 1048576 - cs0.length := by rw [szC, if_neg hz0]
  have gV0 : 0 ≤ lf0 := by rw [e1, e1']; omega
  have fV0 : lf0 ≤ 1048576 := by rw [e1, e1']; omega
  have hk0 : cs0.length ≤ 1048576 := by omega
  rw [← e1]
  clear e1 e1' hz0
  obtain ⟨⟨a0, a1, a2, a3⟩, -⟩ := var4_facts VA.out
  go_wp2_with fail
  apply split (F := fun (gz : Nat) (x : World) (pv : Option Addr) (kv : Nat) (_ : Nat) => x.heap[gz]? = some (.cells #[.int .i64 c, .slice pv l.length kv, .bool ct] 52) ∧ RdC x (.slice pv l.length kv) l ∧ w1.heap.size ≤ gz ∧ gz < x.heap.size ∧ Below w1.heap.size w1 x)
  case main =>
    intro leaf
    refine wp_region_held_drew (S := fun w' => Below w1.heap.size w1 w') (by kernel_rfl) (Below.refl _ _).drew (fun hH => ?_)
    generalize w1.drew = x at hH ⊢
    refine wpAnyH_take (i := 0) (v := .slice b0 cs0.length cap0) (by simp only [List.getElem?_toArray, List.getElem?_cons_zero]; rfl) (by kernel_rfl) (by kernel_rfl) (by kernel_rfl) (by intro _ _ _ h; exact h) (Or.inl ⟨by rfl, fun w hS => by go_simp⟩) hH ?_
    simp only [Act.put, List.setIfInBounds_toArray, List.set_cons_zero, List.set_cons_succ]
    refine wpAnyH_take (i := 2) (v := .agg #[.int .i64 C.n, .int .i64 C.i, .int .i64 C.s, .int .i64 C.m]) (by simp only [List.getElem?_toArray, List.getElem?_cons_succ, List.getElem?_cons_zero]; rfl) (by kernel_rfl) (by kernel_rfl) (by kernel_rfl) (by intro _ _ _ h; exact h) (Or.inl ⟨by rfl, fun w hS => by (have y0 := cell_kept hS a0; have y1 := cell_kept hS a1; have y2 := cell_kept hS a2; have y3 := cell_kept hS a3; go_simp)⟩) hH ?_
    simp only [Act.put, List.setIfInBounds_toArray, List.set_cons_zero, List.set_cons_succ]
    refine wpAnyH_ready (rs := [1, 5]) (by kernel_rfl) (by simp) ?_
    refine AllReadyH.cons (by simp only [List.getElem?_toArray, List.getElem?_cons_succ, List.getElem?_cons_zero]; rfl) (fun K hK => ?_) ?_
    · go_simp
      refine (toCS _ cs0 _ ((HA0.out.below BB.out).below hH) hk0).mono ?_
      rintro e x1 ⟨gT0, rfl, hF, hM⟩
      refine hK.out _ _ (hH.trans (hM.mono hH.size)) (fun hH => ?_)
      clear hK K
      have T0 := hid hF.rd
      clear hF hM
      refine wpAnyH_ready (rs := [3, 5]) (by kernel_rfl) (by simp) ?_
      refine AllReadyH.cons (by simp only [List.getElem?_toArray, List.getElem?_cons_succ, List.getElem?_cons_zero]; rfl) (fun K hK => ?_) ?_
      · go_simp
        refine (tocl _ _ _ _ _).mono ?_
        rintro e x3 ⟨rfl, hM⟩
        refine hK.out _ _ (hH.trans (hM.mono hH.size)) (fun hH => ?_)
        clear hK K
        replace T0 := hid (T0.out.below hM)
        clear hM
        refine wpAnyH_ready (rs := [4, 5]) (by kernel_rfl) (by simp) ?_
        refine AllReadyH.cons (by simp only [List.getElem?_toArray, List.getElem?_cons_succ, List.getElem?_cons_zero]; rfl) (fun K hK => ?_) ?_
        · go_simp
          refine (SP.out _ _ hk0 T0.out).mono ?_
          rintro e x4 ⟨v, rfl, hR, hM⟩
          obtain ⟨pv, kv, rfl, -, -, -⟩ := hR.parts
          refine hK.out _ _ (hH.trans (hM.mono hH.size)) (fun hH => ?_)
          clear hK K
          replace T0 := hid (T0.out.below hM)
          have RR := hid hR
          clear hR hM
          clear T0
          refine wpAnyH_ready (rs := [5]) (by kernel_rfl) (by simp) ?_
          refine AllReadyH.cons (by simp only [List.getElem?_toArray, List.getElem?_cons_succ, List.getElem?_cons_zero]; rfl) (fun K hK => ?_) AllReadyH.nil
          go_simp
          have hM := below_alloc1 x4 (.cells #[.int .i64 0, .slice none 0 0, .bool false] 52)
          have LZ := hid hH.size
          replace RR := hid (RR.out.below hM)
          have VZ := hid (heap_alloc_new x4 (.cells #[.int .i64 0, .slice none 0 0, .bool false] 52))
          refine hK.out _ _ (hH.alloc hH.size _) (fun hH => ?_)
          clear hK K hM
          have SA := hid (show x4.heap.size < (x4.alloc (.cells #[.int .i64 0, .slice none 0 0, .bool false] 52)).heap.size by simp)
          generalize x4.alloc (.cells #[.int .i64 0, .slice none 0 0, .bool false] 52) = x5 at *
          obtain ⟨gz, hgz⟩ : ∃ g, g = x4.heap.size := ⟨_, rfl⟩
          rw [← hgz] at VZ LZ ⊢
          clear hgz SA
          refine wpAnyH_ready (rs := [6]) (by kernel_rfl) (by simp) ?_
          refine AllReadyH.cons (by simp only [List.getElem?_toArray, List.getElem?_cons_succ, List.getElem?_cons_zero]; rfl) (fun K hK => ?_) AllReadyH.nil
          obtain ⟨⟨q0, q1, q2⟩, z0, z1, z2⟩ := var3_facts VZ.out
          go_simp
          have VE := hid (var3_set (x' := .int .i64 c) (y' := .slice pv l.length kv) (z' := .bool ct) VZ.out)
          have RE := hid (rdC_set3 (.int .i64 c) (.slice pv l.length kv) (.bool ct) RR.out VZ.out)
          have SE := hid (show gz < x5.heap.size from var_lt VZ.out)
          refine hK.out _ _ (((hH.setCell (p := ⟨gz, 0, none⟩) LZ.out (.int .i64 c)).setCell (p := ⟨gz, 1, none⟩) LZ.out (.slice pv l.length kv)).setCell (p := ⟨gz, 2, none⟩) LZ.out (.bool ct)) (fun hH => ?_)
          clear hK K VZ RR q0 q1 q2 z0 z1 z2
          have SX : ((((x5.setCell ⟨gz, 0, none⟩ (.int .i64 c)).setCell ⟨gz, 1, none⟩ (.slice pv l.length kv)).setCell ⟨gz, 2, none⟩ (.bool ct))).heap.size = x5.heap.size := by simp
          generalize (((x5.setCell ⟨gz, 0, none⟩ (.int .i64 c)).setCell ⟨gz, 1, none⟩ (.slice pv l.length kv)).setCell ⟨gz, 2, none⟩ (.bool ct)) = xE at *
          refine wpAnyH_done (by kernel_rfl) ?_ _
          exact leaf gz xE pv kv gT0 ⟨VE.out, RE.out, LZ.out, by have := SE.out; omega, hH⟩
        refine AllReadyH.cons (by simp only [List.getElem?_toArray, List.getElem?_cons_succ, List.getElem?_cons_zero]; rfl) (fun K hK => ?_) AllReadyH.nil
        go_simp
        have hM := below_alloc1 x3 (.cells #[.int .i64 0, .slice none 0 0, .bool false] 52)
        have LZ := hid hH.size
        replace T0 := hid (T0.out.below hM)
        have VZ := hid (heap_alloc_new x3 (.cells #[.int .i64 0, .slice none 0 0, .bool false] 52))
        refine hK.out _ _ (hH.alloc hH.size _) (fun hH => ?_)
        clear hK K hM
        have SA := hid (show x3.heap.size < (x3.alloc (.cells #[.int .i64 0, .slice none 0 0, .bool false] 52)).heap.size by simp)
        generalize x3.alloc (.cells #[.int .i64 0, .slice none 0 0, .bool false] 52) = x5 at *
        obtain ⟨gz, hgz⟩ : ∃ g, g = x3.heap.size := ⟨_, rfl⟩
        rw [← hgz] at VZ LZ ⊢
        clear hgz SA
        refine wpAnyH_ready (rs := [4]) (by kernel_rfl) (by simp) ?_
        refine AllReadyH.cons (by simp only [List.getElem?_toArray, List.getElem?_cons_succ, List.getElem?_cons_zero]; rfl) (fun K hK => ?_) AllReadyH.nil
        go_simp
        refine (SP.out _ _ hk0 T0.out).mono ?_
        rintro e x4 ⟨v, rfl, hR, hM⟩
        obtain ⟨pv, kv, rfl, -, -, -⟩ := hR.parts
        refine hK.out _ _ (hH.trans (hM.mono hH.size)) (fun hH => ?_)
        clear hK K
        replace T0 := hid (T0.out.below hM)
        replace VZ := hid (var_below hM VZ.out)
        have RR := hid hR
        clear hR hM
        clear T0
        refine wpAnyH_ready (rs := [6]) (by kernel_rfl) (by simp) ?_
        refine AllReadyH.cons (by simp only [List.getElem?_toArray, List.getElem?_cons_succ, List.getElem?_cons_zero]; rfl) (fun K hK => ?_) AllReadyH.nil
        obtain ⟨⟨q0, q1, q2⟩, z0, z1, z2⟩ := var3_facts VZ.out
        go_simp
        have VE := hid (var3_set (x' := .int .i64 c) (y' := .slice pv l.length kv) (z' := .bool ct) VZ.out)
        have RE := hid (rdC_set3 (.int .i64 c) (.slice pv l.length kv) (.bool ct) RR.out VZ.out)
        have SE := hid (show gz < x4.heap.size from var_lt VZ.out)
        refine hK.out _ _ (((hH.setCell (p := ⟨gz, 0, none⟩) LZ.out (.int .i64 c)).setCell (p := ⟨gz, 1, none⟩) LZ.out (.slice pv l.length kv)).setCell (p := ⟨gz, 2, none⟩) LZ.out (.bool ct)) (fun hH => ?_)
        clear hK K VZ RR q0 q1 q2 z0 z1 z2
        have SX : ((((x4.setCell ⟨gz, 0, none⟩ (.int .i64 c)).setCell ⟨gz, 1, none⟩ (.slice pv l.length kv)).setCell ⟨gz, 2, none⟩ (.bool ct))).heap.size = x4.heap.size := by simp
        generalize (((x4.setCell ⟨gz, 0, none⟩ (.int .i64 c)).setCell ⟨gz, 1, none⟩ (.slice pv l.length kv)).setCell ⟨gz, 2, none⟩ (.bool ct)) = xE at *
        refine wpAnyH_done (by kernel_rfl) ?_ _
        exact leaf gz xE pv kv gT0 ⟨VE.out, RE.out, LZ.out, by have := SE.out; omega, hH⟩
      refine AllReadyH.cons (by simp only [List.getElem?_toArray, List.getElem?_cons_succ, List.getElem?_cons_zero]; rfl) (fun K hK => ?_) AllReadyH.nil
      go_simp
      have hM := below_alloc1 x1 (.cells #[.int .i64 0, .slice none 0 0, .bool false] 52)
      have LZ := hid hH.size
      replace T0 := hid (T0.out.below hM)
      have VZ := hid (heap_alloc_new x1 (.cells #[.int .i64 0, .slice none 0 0, .bool false] 52))
      refine hK.out _ _ (hH.alloc hH.size _) (fun hH => ?_)
      clear hK K hM
      have SA := hid (show x1.heap.size < (x1.alloc (.cells #[.int .i64 0, .slice none 0 0, .bool false] 52)).heap.size by simp)
      generalize x1.alloc (.cells #[.int .i64 0, .slice none 0 0, .bool false] 52) = x5 at *
      obtain ⟨gz, hgz⟩ : ∃ g, g = x1.heap.size := ⟨_, rfl⟩
      rw [← hgz] at VZ LZ ⊢
      clear hgz SA
      refine wpAnyH_ready (rs := [3]) (by kernel_rfl) (by simp) ?_
      refine AllReadyH.cons (by simp only [List.getElem?_toArray, List.getElem?_cons_succ, List.getElem?_cons_zero]; rfl) (fun K hK => ?_) AllReadyH.nil
      go_simp
      refine (tocl _ _ _ _ _).mono ?_
      rintro e x3 ⟨rfl, hM⟩
      refine hK.out _ _ (hH.trans (hM.mono hH.size)) (fun hH => ?_)
      clear hK K
      replace T0 := hid (T0.out.below hM)
      replace VZ := hid (var_below hM VZ.out)
      clear hM
      refine wpAnyH_ready (rs := [4]) (by kernel_rfl) (by simp) ?_
      refine AllReadyH.cons (by simp only [List.getElem?_toArray, List.getElem?_cons_succ, List.getElem?_cons_zero]; rfl) (fun K hK => ?_) AllReadyH.nil
      go_simp
      refine (SP.out _ _ hk0 T0.out).mono ?_
      rintro e x4 ⟨v, rfl, hR, hM⟩
      obtain ⟨pv, kv, rfl, -, -, -⟩ := hR.parts
      refine hK.out _ _ (hH.trans (hM.mono hH.size)) (fun hH => ?_)
      clear hK K
      replace T0 := hid (T0.out.below hM)
      replace VZ := hid (var_below hM VZ.out)
      have RR := hid hR
      clear hR hM
      clear T0
      refine wpAnyH_ready (rs := [6]) (by kernel_rfl) (by simp) ?_
      refine AllReadyH.cons (by simp only [List.getElem?_toArray, List.getElem?_cons_succ, List.getElem?_cons_zero]; rfl) (fun K hK => ?_) AllReadyH.nil
      obtain ⟨⟨q0, q1, q2⟩, z0, z1, z2⟩ := var3_facts VZ.out
      go_simp
      have VE := hid (var3_set (x' := .int .i64 c) (y' := .slice pv l.length kv) (z' := .bool ct) VZ.out)
      have RE := hid (rdC_set3 (.int .i64 c) (.slice pv l.length kv) (.bool ct) RR.out VZ.out)
      have SE := hid (show gz < x4.heap.size from var_lt VZ.out)
      refine hK.out _ _ (((hH.setCell (p := ⟨gz, 0, none⟩) LZ.out (.int .i64 c)).setCell (p := ⟨gz, 1, none⟩) LZ.out (.slice pv l.length kv)).setCell (p := ⟨gz, 2, none⟩) LZ.out (.bool ct)) (fun hH => ?_)
      clear hK K VZ RR q0 q1 q2 z0 z1 z2
      have SX : ((((x4.setCell ⟨gz, 0, none⟩ (.int .i64 c)).setCell ⟨gz, 1, none⟩ (.slice pv l.length kv)).setCell ⟨gz, 2, none⟩ (.bool ct))).heap.size = x4.heap.size := by simp
      generalize (((x4.setCell ⟨gz, 0, none⟩ (.int .i64 c)).setCell ⟨gz, 1, none⟩ (.slice pv l.length kv)).setCell ⟨gz, 2, none⟩ (.bool ct)) = xE at *
      refine wpAnyH_done (by kernel_rfl) ?_ _
      exact leaf gz xE pv kv gT0 ⟨VE.out, RE.out, LZ.out, by have := SE.out; omega, hH⟩
    refine AllReadyH.cons (by simp only [List.getElem?_toArray, List.getElem?_cons_succ, List.getElem?_cons_zero]; rfl) (fun K hK => ?_) AllReadyH.nil
    go_simp
    have hM := below_alloc1 x (.cells #[.int .i64 0, .slice none 0 0, .bool false] 52)
    have LZ := hid hH.size
    have VZ := hid (heap_alloc_new x (.cells #[.int .i64 0, .slice none 0 0, .bool false] 52))
    refine hK.out _ _ (hH.alloc hH.size _) (fun hH => ?_)
    clear hK K hM
    have SA := hid (show x.heap.size < (x.alloc (.cells #[.int .i64 0, .slice none 0 0, .bool false] 52)).heap.size by simp)
    generalize x.alloc (.cells #[.int .i64 0, .slice none 0 0, .bool false] 52) = x5 at *
    obtain ⟨gz, hgz⟩ : ∃ g, g = x.heap.size := ⟨_, rfl⟩
    rw [← hgz] at VZ LZ ⊢
    clear hgz SA
    refine wpAnyH_ready (rs := [1]) (by kernel_rfl) (by simp) ?_
    refine AllReadyH.cons (by simp only [List.getElem?_toArray, List.getElem?_cons_succ, List.getElem?_cons_zero]; rfl) (fun K hK => ?_) AllReadyH.nil
    go_simp
    refine (toCS _ cs0 _ ((HA0.out.below BB.out).below hH) hk0).mono ?_
    rintro e x1 ⟨gT0, rfl, hF, hM⟩
    refine hK.out _ _ (hH.trans (hM.mono hH.size)) (fun hH => ?_)
    clear hK K
    replace VZ := hid (var_below hM VZ.out)
    have T0 := hid hF.rd
    clear hF hM
    refine wpAnyH_ready (rs := [3]) (by kernel_rfl) (by simp) ?_
    refine AllReadyH.cons (by simp only [List.getElem?_toArray, List.getElem?_cons_succ, List.getElem?_cons_zero]; rfl) (fun K hK => ?_) AllReadyH.nil
    go_simp
    refine (tocl _ _ _ _ _).mono ?_
    rintro e x3 ⟨rfl, hM⟩
    refine hK.out _ _ (hH.trans (hM.mono hH.size)) (fun hH => ?_)
    clear hK K
    replace T0 := hid (T0.out.below hM)
    replace VZ := hid (var_below hM VZ.out)
    clear hM
    refine wpAnyH_ready (rs := [4]) (by kernel_rfl) (by simp) ?_
    refine AllReadyH.cons (by simp only [List.getElem?_toArray, List.getElem?_cons_succ, List.getElem?_cons_zero]; rfl) (fun K hK => ?_) AllReadyH.nil
    go_simp
    refine (SP.out _ _ hk0 T0.out).mono ?_
    rintro e x4 ⟨v, rfl, hR, hM⟩
    obtain ⟨pv, kv, rfl, -, -, -⟩ := hR.parts
    refine hK.out _ _ (hH.trans (hM.mono hH.size)) (fun hH => ?_)
    clear hK K
    replace T0 := hid (T0.out.below hM)
    replace VZ := hid (var_below hM VZ.out)
    have RR := hid hR
    clear hR hM
    clear T0
    refine wpAnyH_ready (rs := [6]) (by kernel_rfl) (by simp) ?_
    refine AllReadyH.cons (by simp only [List.getElem?_toArray, List.getElem?_cons_succ, List.getElem?_cons_zero]; rfl) (fun K hK => ?_) AllReadyH.nil
    obtain ⟨⟨q0, q1, q2⟩, z0, z1, z2⟩ := var3_facts VZ.out
    go_simp
    have VE := hid (var3_set (x' := .int .i64 c) (y' := .slice pv l.length kv) (z' := .bool ct) VZ.out)
    have RE := hid (rdC_set3 (.int .i64 c) (.slice pv l.length kv) (.bool ct) RR.out VZ.out)
    have SE := hid (show gz < x4.heap.size from var_lt VZ.out)
    refine hK.out _ _ (((hH.setCell (p := ⟨gz, 0, none⟩) LZ.out (.int .i64 c)).setCell (p := ⟨gz, 1, none⟩) LZ.out (.slice pv l.length kv)).setCell (p := ⟨gz, 2, none⟩) LZ.out (.bool ct)) (fun hH => ?_)
    clear hK K VZ RR q0 q1 q2 z0 z1 z2
    have SX : ((((x4.setCell ⟨gz, 0, none⟩ (.int .i64 c)).setCell ⟨gz, 1, none⟩ (.slice pv l.length kv)).setCell ⟨gz, 2, none⟩ (.bool ct))).heap.size = x4.heap.size := by simp
    generalize (((x4.setCell ⟨gz, 0, none⟩ (.int .i64 c)).setCell ⟨gz, 1, none⟩ (.slice pv l.length kv)).setCell ⟨gz, 2, none⟩ (.bool ct)) = xE at *
    refine wpAnyH_done (by kernel_rfl) ?_ _
    exact leaf gz xE pv kv gT0 ⟨VE.out, RE.out, LZ.out, by have := SE.out; omega, hH⟩
  case leaf =>
  intro gW w3a pW kW gT0 ⟨hVW, hRW, hgz, hlt, hB⟩
  clear a0 a1 a2 a3
  have VW := hid hVW
  have RW := hid hRW
  replace VA := hid (var_below hB VA.out)
  replace BB := hid (BB.out.trans (hB.mono BB.out.size))
  have Z2 := hid hB.size
  have Z3 := hid hgz
  have Z4 := hid hlt
  clear hVW hRW hgz hlt hB
  have BW := hid (Below.refl w3a.heap.size w3a)
  obtain ⟨⟨vw_0, vw_1, vw_2⟩, -⟩ := var3_facts VW.out
  go_wp2_with fail
  clear vw_0 vw_1 vw_2
  refine (toCS _ cs0 _ (HA0.out.below BB.out) hk0).mono ?_
  rintro e w4 ⟨gX0, rfl, hF, hB⟩
  have X0 := hid hF
  clear hF
  replace VW := hid (var_below hB VW.out)
  replace BB := hid (BB.out.trans (hB.mono BB.out.size))
  replace VA := hid (var_below hB VA.out)
  replace BW := hid (BW.out.trans (hB.mono BW.out.size))
  have Z5 := hid (hB.size)
  clear hB
  obtain ⟨⟨a0, a1, a2, a3⟩, -⟩ := var4_facts VA.out
  obtain ⟨⟨vw_0, vw_1, vw_2⟩, -⟩ := var3_facts VW.out
  go_wp2_with fail
  clear vw_0 vw_1 vw_2 a0 a1 a2 a3
  refine (tocl _ _ _ _ _).mono ?_
  rintro e w4t ⟨rfl, hB⟩
  replace VW := hid (var_below hB VW.out)
  replace VA := hid (var_below hB VA.out)
  replace X0 := hid (X0.out.below hB)
  replace BB := hid (BB.out.trans (hB.mono BB.out.size))
  replace BW := hid (BW.out.trans (hB.mono BW.out.size))
  replace Z5 := hid (And.intro Z5.out hB.size)
  clear hB
  go_wp2_with fail
  refine (IP.out _ _ hk0 X0.out.rd).mono ?_
  rintro e w5 ⟨v, rfl, hF, hB⟩
  obtain ⟨pG, kG, rfl, -, -, -⟩ := hF.rd.parts
  have OG := hid hF
  clear hF
  replace VW := hid (var_below hB VW.out)
  replace X0 := hid (X0.out.below hB)
  replace BB := hid (BB.out.trans (hB.mono BB.out.size))
  replace VA := hid (var_below hB VA.out)
  replace BW := hid (BW.out.trans (hB.mono BW.out.size))
  have Z6 := hid (hB.size)
  clear hB
  have VG := hid (heap_alloc_new w5 (.cells #[.int .i64 c, .slice pG l.length kG, .bool ct] 52))
  have hA := below_alloc1 w5 (.cells #[.int .i64 c, .slice pG l.length kG, .bool ct] 52)
  replace VW := hid (var_below hA VW.out)
  replace X0 := hid (X0.out.below hA)
  replace OG := hid (OG.out.below hA)
  replace BB := hid (BB.out.trans (hA.mono BB.out.size))
  replace VA := hid (var_below hA VA.out)
  replace BW := hid (BW.out.trans (hA.mono BW.out.size))
  have Z7 := hid (show w5.heap.size < (w5.alloc (.cells #[.int .i64 c, .slice pG l.length kG, .bool ct] 52)).heap.size by simp)
  clear hA
  obtain ⟨⟨vw_0, vw_1, vw_2⟩, -⟩ := var3_facts VW.out
  obtain ⟨⟨vg_0, vg_1, vg_2⟩, -⟩ := var3_facts VG.out
  go_wp2_with fail
  clear vw_0 vw_1 vw_2 vg_0 vg_1 vg_2
  generalize w5.alloc (.cells #[.int .i64 c, .slice pG l.length kG, .bool ct] 52) = w5a at *
  refine (eqVR c ct _ _ l _ OG.out.rd (RW.out.below BW.out) hl).mono ?_
  rintro e w6 ⟨rfl, hB⟩
  replace VW := hid (var_below hB VW.out)
  replace VG := hid (var_below hB VG.out)
  replace X0 := hid (X0.out.below hB)
  replace OG := hid (OG.out.below hB)
  replace BB := hid (BB.out.trans (hB.mono BB.out.size))
  replace VA := hid (var_below hB VA.out)
  replace BW := hid (BW.out.trans (hB.mono BW.out.size))
  have Z8 := hid (hB.size)
  clear hB
  obtain ⟨⟨vw_0, vw_1, vw_2⟩, -⟩ := var3_facts VW.out
  obtain ⟨⟨vg_0, vg_1, vg_2⟩, -⟩ := var3_facts VG.out
  go_wp2_with fail
  clear vw_0 vw_1 vw_2 vg_0 vg_1 vg_2
  refine (toCS _ cs0 _ (HA0.out.below BB.out) hk0).mono ?_
  rintro e w7 ⟨gY, rfl, hF, hB⟩
  have Y := hid hF.rd
  clear hF
  replace VW := hid (var_below hB VW.out)
  replace VG := hid (var_below hB VG.out)
  replace X0 := hid (X0.out.below hB)
  replace OG := hid (OG.out.below hB)
  replace BB := hid (BB.out.trans (hB.mono BB.out.size))
  replace VA := hid (var_below hB VA.out)
  replace BW := hid (BW.out.trans (hB.mono BW.out.size))
  have Z9 := hid (hB.size)
  clear hB
  obtain ⟨⟨vw_0, vw_1, vw_2⟩, -⟩ := var3_facts VW.out
  obtain ⟨⟨vg_0, vg_1, vg_2⟩, -⟩ := var3_facts VG.out
  go_wp2_with fail
  clear vw_0 vw_1 vw_2 vg_0 vg_1 vg_2
  refine (eqCS _ _ cs0 _ X0.out.rd Y.out hk0).mono ?_
  rintro e w8 ⟨rfl, hB⟩
  clear Y
  replace VW := hid (var_below hB VW.out)
  replace VG := hid (var_below hB VG.out)
  replace X0 := hid (X0.out.below hB)
  replace OG := hid (OG.out.below hB)
  replace BB := hid (BB.out.trans (hB.mono BB.out.size))
  replace VA := hid (var_below hB VA.out)
  replace BW := hid (BW.out.trans (hB.mono BW.out.size))
  have Z10 := hid (hB.size)
  clear hB
  obtain ⟨⟨vw_0, vw_1, vw_2⟩, -⟩ := var3_facts VW.out
  obtain ⟨⟨vg_0, vg_1, vg_2⟩, -⟩ := var3_facts VG.out
  go_wp2_with fail
  clear vw_0 vw_1 vw_2 vg_0 vg_1 vg_2
  refine (markCo _ cs0 1 _ rfl _ _ _ X0.out hk0 (by omega)).mono ?_
  rintro e w9 ⟨rfl, -, hI⟩
  replace VW := hid (hI.var VW.out (by have := Z1.out; have := Z2.out; have := Z3.out; have := Z4.out; have := Z5.out; have := Z6.out; have := Z7.out; have := Z8.out; have := Z9.out; have := Z10.out; omega))
  replace VG := hid (hI.var VG.out (by have := Z1.out; have := Z2.out; have := Z3.out; have := Z4.out; have := Z5.out; have := Z6.out; have := Z7.out; have := Z8.out; have := Z9.out; have := Z10.out; omega))
  replace OG := hid (OG.out.agr (Agr.of_ins hI (by have := Z1.out; have := Z2.out; have := Z3.out; have := Z4.out; have := Z5.out; have := Z6.out; have := Z7.out; have := Z8.out; have := Z9.out; have := Z10.out; omega) (by have := Z1.out; have := Z2.out; have := Z3.out; have := Z4.out; have := Z5.out; have := Z6.out; have := Z7.out; have := Z8.out; have := Z9.out; have := Z10.out; omega)))
  replace BB := hid (BB.out.trans (hI.below (by have := Z1.out; have := Z2.out; have := Z3.out; have := Z4.out; have := Z5.out; have := Z6.out; have := Z7.out; have := Z8.out; have := Z9.out; have := Z10.out; omega) BB.out.size))
  replace VA := hid (hI.var VA.out (by have := ZA.out; have := Z1.out; have := Z2.out; have := Z3.out; have := Z4.out; have := Z5.out; have := Z6.out; have := Z7.out; have := Z8.out; have := Z9.out; have := Z10.out; omega))
  replace BW := hid (BW.out.trans (hI.below (by have := Z1.out; have := Z2.out; have := Z3.out; have := Z4.out; have := Z5.out; have := Z6.out; have := Z7.out; have := Z8.out; have := Z9.out; have := Z10.out; omega) BW.out.size))
  have Z11 := hid (hI.size)
  clear hI
  clear X0
  obtain ⟨k1, hkk⟩ : ∃ m : Nat, m = 1 + cs0.length * 4 := ⟨_, rfl⟩
  rw [← hkk]
  have kb1 : k1 ≤ 10485761 := by omega
  clear hkk
  have hk0 : decide ((k1 : Int) < 0) = false := decide_eq_false (by omega)
  obtain ⟨⟨vw_0, vw_1, vw_2⟩, -⟩ := var3_facts VW.out
  obtain ⟨⟨vg_0, vg_1, vg_2⟩, -⟩ := var3_facts VG.out
  go_wp2_with fail
  clear vw_0 vw_1 vw_2 vg_0 vg_1 vg_2
  refine (eqVR c ct _ _ l _ OG.out.rd (RW.out.below BW.out) hl).mono ?_
  rintro e w10 ⟨rfl, hB⟩
  replace VW := hid (var_below hB VW.out)
  replace VG := hid (var_below hB VG.out)
  replace OG := hid (OG.out.below hB)
  replace BB := hid (BB.out.trans (hB.mono BB.out.size))
  replace VA := hid (var_below hB VA.out)
  replace BW := hid (BW.out.trans (hB.mono BW.out.size))
  have Z12 := hid (hB.size)
  clear hB
  clear hk0
  obtain ⟨⟨vw_0, vw_1, vw_2⟩, -⟩ := var3_facts VW.out
  obtain ⟨⟨vg_0, vg_1, vg_2⟩, -⟩ := var3_facts VG.out
  go_wp2_with fail
  clear vw_0 vw_1 vw_2 vg_0 vg_1 vg_2
  refine (markVRo c ct _ l 1 _ rfl _ _ _ OG.out hl (by omega)).mono ?_
  rintro e w11 ⟨rfl, hF, hI⟩
  replace OG := hid hF
  clear hF
  replace VW := hid (hI.var VW.out (by have := Z1.out; have := Z2.out; have := Z3.out; have := Z4.out; have := Z5.out; have := Z6.out; have := Z7.out; have := Z8.out; have := Z9.out; have := Z10.out; have := Z11.out; have := Z12.out; omega))
  replace VG := hid (hI.var VG.out (by have := Z1.out; have := Z2.out; have := Z3.out; have := Z4.out; have := Z5.out; have := Z6.out; have := Z7.out; have := Z8.out; have := Z9.out; have := Z10.out; have := Z11.out; have := Z12.out; omega))
  replace BB := hid (BB.out.trans (hI.below (by have := Z1.out; have := Z2.out; have := Z3.out; have := Z4.out; have := Z5.out; have := Z6.out; have := Z7.out; have := Z8.out; have := Z9.out; have := Z10.out; have := Z11.out; have := Z12.out; omega) BB.out.size))
  replace VA := hid (hI.var VA.out (by have := ZA.out; have := Z1.out; have := Z2.out; have := Z3.out; have := Z4.out; have := Z5.out; have := Z6.out; have := Z7.out; have := Z8.out; have := Z9.out; have := Z10.out; have := Z11.out; have := Z12.out; omega))
  replace BW := hid (BW.out.trans (hI.below (by have := Z1.out; have := Z2.out; have := Z3.out; have := Z4.out; have := Z5.out; have := Z6.out; have := Z7.out; have := Z8.out; have := Z9.out; have := Z10.out; have := Z11.out; have := Z12.out; omega) BW.out.size))
  have Z13 := hid (hI.size)
  clear hI
  obtain ⟨m1, hm1⟩ : ∃ m : Nat, m = 1 + l.length * 4 := ⟨_, rfl⟩
  rw [← hm1]
  have HM := hid hm1
  clear hm1
  have hm0 : decide ((m1 : Int) < 0) = false := decide_eq_false (by omega)
  obtain ⟨⟨vw_0, vw_1, vw_2⟩, -⟩ := var3_facts VW.out
  obtain ⟨⟨vg_0, vg_1, vg_2⟩, -⟩ := var3_facts VG.out
  go_wp2_with fail
  clear vw_0 vw_1 vw_2 vg_0 vg_1 vg_2
  refine (heldVRo c ct _ l 1 _ rfl _ OG.out.rd hl (by omega)).mono ?_
  rintro e w12 ⟨rfl, hB⟩
  rw [← HM.out]
  replace VW := hid (var_below hB VW.out)
  replace VG := hid (var_below hB VG.out)
  replace OG := hid (OG.out.below hB)
  replace BB := hid (BB.out.trans (hB.mono BB.out.size))
  replace VA := hid (var_below hB VA.out)
  replace BW := hid (BW.out.trans (hB.mono BW.out.size))
  have Z14 := hid (hB.size)
  clear hB
  obtain ⟨⟨a0, a1, a2, a3⟩, -⟩ := var4_facts VA.out
  go_wp2_with fail
  apply split (F := fun (gz : Nat) (x : World) (pv : Option Addr) (kv : Nat) (_ : Nat) => x.heap[gz]? = some (.cells #[.int .i64 c, .slice pv l.length kv, .bool ct] 52) ∧ RdC x (.slice pv l.length kv) l ∧ w12.heap.size ≤ gz ∧ gz < x.heap.size ∧ Below w12.heap.size w12 x)
  case main =>
    intro leaf
    refine wp_region_held_drew (S := fun w' => Below w12.heap.size w12 w') (by kernel_rfl) (Below.refl _ _).drew (fun hH => ?_)
    generalize w12.drew = x at hH ⊢
    refine wpAnyH_take (i := 0) (v := .slice b0 cs0.length cap0) (by simp only [List.getElem?_toArray, List.getElem?_cons_zero]; rfl) (by kernel_rfl) (by kernel_rfl) (by kernel_rfl) (by intro _ _ _ h; exact h) (Or.inl ⟨by rfl, fun w hS => by go_simp⟩) hH ?_
    simp only [Act.put, List.setIfInBounds_toArray, List.set_cons_zero, List.set_cons_succ]
    refine wpAnyH_take (i := 2) (v := .agg #[.int .i64 C.n, .int .i64 C.i, .int .i64 C.s, .int .i64 C.m]) (by simp only [List.getElem?_toArray, List.getElem?_cons_succ, List.getElem?_cons_zero]; rfl) (by kernel_rfl) (by kernel_rfl) (by kernel_rfl) (by intro _ _ _ h; exact h) (Or.inl ⟨by rfl, fun w hS => by (have y0 := cell_kept hS a0; have y1 := cell_kept hS a1; have y2 := cell_kept hS a2; have y3 := cell_kept hS a3; go_simp)⟩) hH ?_
    simp only [Act.put, List.setIfInBounds_toArray, List.set_cons_zero, List.set_cons_succ]
    refine wpAnyH_ready (rs := [1, 5]) (by kernel_rfl) (by simp) ?_
    refine AllReadyH.cons (by simp only [List.getElem?_toArray, List.getElem?_cons_succ, List.getElem?_cons_zero]; rfl) (fun K hK => ?_) ?_
    · go_simp
      refine (toCS _ cs0 _ ((HA0.out.below BB.out).below hH) hk0).mono ?_
      rintro e x1 ⟨gT0, rfl, hF, hM⟩
      refine hK.out _ _ (hH.trans (hM.mono hH.size)) (fun hH => ?_)
      clear hK K
      have T0 := hid hF.rd
      clear hF hM
      refine wpAnyH_ready (rs := [3, 5]) (by kernel_rfl) (by simp) ?_
      refine AllReadyH.cons (by simp only [List.getElem?_toArray, List.getElem?_cons_succ, List.getElem?_cons_zero]; rfl) (fun K hK => ?_) ?_
      · go_simp
        refine (tocl _ _ _ _ _).mono ?_
        rintro e x3 ⟨rfl, hM⟩
        refine hK.out _ _ (hH.trans (hM.mono hH.size)) (fun hH => ?_)
        clear hK K
        replace T0 := hid (T0.out.below hM)
        clear hM
        refine wpAnyH_ready (rs := [4, 5]) (by kernel_rfl) (by simp) ?_
        refine AllReadyH.cons (by simp only [List.getElem?_toArray, List.getElem?_cons_succ, List.getElem?_cons_zero]; rfl) (fun K hK => ?_) ?_
        · go_simp
          refine (IQ.out _ _ hk0 T0.out).mono ?_
          rintro e x4 ⟨v, rfl, hR, hM⟩
          obtain ⟨pv, kv, rfl, -, -, -⟩ := hR.parts
          refine hK.out _ _ (hH.trans (hM.mono hH.size)) (fun hH => ?_)
          clear hK K
          replace T0 := hid (T0.out.below hM)
          have RR := hid hR
          clear hR hM
          clear T0
          refine wpAnyH_ready (rs := [5]) (by kernel_rfl) (by simp) ?_
          refine AllReadyH.cons (by simp only [List.getElem?_toArray, List.getElem?_cons_succ, List.getElem?_cons_zero]; rfl) (fun K hK => ?_) AllReadyH.nil
          go_simp
          have hM := below_alloc1 x4 (.cells #[.int .i64 0, .slice none 0 0, .bool false] 52)
          have LZ := hid hH.size
          replace RR := hid (RR.out.below hM)
          have VZ := hid (heap_alloc_new x4 (.cells #[.int .i64 0, .slice none 0 0, .bool false] 52))
          refine hK.out _ _ (hH.alloc hH.size _) (fun hH => ?_)
          clear hK K hM
          have SA := hid (show x4.heap.size < (x4.alloc (.cells #[.int .i64 0, .slice none 0 0, .bool false] 52)).heap.size by simp)
          generalize x4.alloc (.cells #[.int .i64 0, .slice none 0 0, .bool false] 52) = x5 at *
          obtain ⟨gz, hgz⟩ : ∃ g, g = x4.heap.size := ⟨_, rfl⟩
          rw [← hgz] at VZ LZ ⊢
          clear hgz SA
          refine wpAnyH_ready (rs := [6]) (by kernel_rfl) (by simp) ?_
          refine AllReadyH.cons (by simp only [List.getElem?_toArray, List.getElem?_cons_succ, List.getElem?_cons_zero]; rfl) (fun K hK => ?_) AllReadyH.nil
          obtain ⟨⟨q0, q1, q2⟩, z0, z1, z2⟩ := var3_facts VZ.out
          go_simp
          have VE := hid (var3_set (x' := .int .i64 c) (y' := .slice pv l.length kv) (z' := .bool ct) VZ.out)
          have RE := hid (rdC_set3 (.int .i64 c) (.slice pv l.length kv) (.bool ct) RR.out VZ.out)
          have SE := hid (show gz < x5.heap.size from var_lt VZ.out)
          refine hK.out _ _ (((hH.setCell (p := ⟨gz, 0, none⟩) LZ.out (.int .i64 c)).setCell (p := ⟨gz, 1, none⟩) LZ.out (.slice pv l.length kv)).setCell (p := ⟨gz, 2, none⟩) LZ.out (.bool ct)) (fun hH => ?_)
          clear hK K VZ RR q0 q1 q2 z0 z1 z2
          have SX : ((((x5.setCell ⟨gz, 0, none⟩ (.int .i64 c)).setCell ⟨gz, 1, none⟩ (.slice pv l.length kv)).setCell ⟨gz, 2, none⟩ (.bool ct))).heap.size = x5.heap.size := by simp
          generalize (((x5.setCell ⟨gz, 0, none⟩ (.int .i64 c)).setCell ⟨gz, 1, none⟩ (.slice pv l.length kv)).setCell ⟨gz, 2, none⟩ (.bool ct)) = xE at *
          refine wpAnyH_done (by kernel_rfl) ?_ _
          exact leaf gz xE pv kv gT0 ⟨VE.out, RE.out, LZ.out, by have := SE.out; omega, hH⟩
        refine AllReadyH.cons (by simp only [List.getElem?_toArray, List.getElem?_cons_succ, List.getElem?_cons_zero]; rfl) (fun K hK => ?_) AllReadyH.nil
        go_simp
        have hM := below_alloc1 x3 (.cells #[.int .i64 0, .slice none 0 0, .bool false] 52)
        have LZ := hid hH.size
        replace T0 := hid (T0.out.below hM)
        have VZ := hid (heap_alloc_new x3 (.cells #[.int .i64 0, .slice none 0 0, .bool false] 52))
        refine hK.out _ _ (hH.alloc hH.size _) (fun hH => ?_)
        clear hK K hM
        have SA := hid (show x3.heap.size < (x3.alloc (.cells #[.int .i64 0, .slice none 0 0, .bool false] 52)).heap.size by simp)
        generalize x3.alloc (.cells #[.int .i64 0, .slice none 0 0, .bool false] 52) = x5 at *
        obtain ⟨gz, hgz⟩ : ∃ g, g = x3.heap.size := ⟨_, rfl⟩
        rw [← hgz] at VZ LZ ⊢
        clear hgz SA
        refine wpAnyH_ready (rs := [4]) (by kernel_rfl) (by simp) ?_
        refine AllReadyH.cons (by simp only [List.getElem?_toArray, List.getElem?_cons_succ, List.getElem?_cons_zero]; rfl) (fun K hK => ?_) AllReadyH.nil
        go_simp
        refine (IQ.out _ _ hk0 T0.out).mono ?_
        rintro e x4 ⟨v, rfl, hR, hM⟩
        obtain ⟨pv, kv, rfl, -, -, -⟩ := hR.parts
        refine hK.out _ _ (hH.trans (hM.mono hH.size)) (fun hH => ?_)
        clear hK K
        replace T0 := hid (T0.out.below hM)
        replace VZ := hid (var_below hM VZ.out)
        have RR := hid hR
        clear hR hM
        clear T0
        refine wpAnyH_ready (rs := [6]) (by kernel_rfl) (by simp) ?_
        refine AllReadyH.cons (by simp only [List.getElem?_toArray, List.getElem?_cons_succ, List.getElem?_cons_zero]; rfl) (fun K hK => ?_) AllReadyH.nil
        obtain ⟨⟨q0, q1, q2⟩, z0, z1, z2⟩ := var3_facts VZ.out
        go_simp
        have VE := hid (var3_set (x' := .int .i64 c) (y' := .slice pv l.length kv) (z' := .bool ct) VZ.out)
        have RE := hid (rdC_set3 (.int .i64 c) (.slice pv l.length kv) (.bool ct) RR.out VZ.out)
        have SE := hid (show gz < x4.heap.size from var_lt VZ.out)
        refine hK.out _ _ (((hH.setCell (p := ⟨gz, 0, none⟩) LZ.out (.int .i64 c)).setCell (p := ⟨gz, 1, none⟩) LZ.out (.slice pv l.length kv)).setCell (p := ⟨gz, 2, none⟩) LZ.out (.bool ct)) (fun hH => ?_)
        clear hK K VZ RR q0 q1 q2 z0 z1 z2
        have SX : ((((x4.setCell ⟨gz, 0, none⟩ (.int .i64 c)).setCell ⟨gz, 1, none⟩ (.slice pv l.length kv)).setCell ⟨gz, 2, none⟩ (.bool ct))).heap.size = x4.heap.size := by simp
        generalize (((x4.setCell ⟨gz, 0, none⟩ (.int .i64 c)).setCell ⟨gz, 1, none⟩ (.slice pv l.length kv)).setCell ⟨gz, 2, none⟩ (.bool ct)) = xE at *
        refine wpAnyH_done (by kernel_rfl) ?_ _
        exact leaf gz xE pv kv gT0 ⟨VE.out, RE.out, LZ.out, by have := SE.out; omega, hH⟩
      refine AllReadyH.cons (by simp only [List.getElem?_toArray, List.getElem?_cons_succ, List.getElem?_cons_zero]; rfl) (fun K hK => ?_) AllReadyH.nil
      go_simp
      have hM := below_alloc1 x1 (.cells #[.int .i64 0, .slice none 0 0, .bool false] 52)
      have LZ := hid hH.size
      replace T0 := hid (T0.out.below hM)
      have VZ := hid (heap_alloc_new x1 (.cells #[.int .i64 0, .slice none 0 0, .bool false] 52))
      refine hK.out _ _ (hH.alloc hH.size _) (fun hH => ?_)
      clear hK K hM
      have SA := hid (show x1.heap.size < (x1.alloc (.cells #[.int .i64 0, .slice none 0 0, .bool false] 52)).heap.size by simp)
      generalize x1.alloc (.cells #[.int .i64 0, .slice none 0 0, .bool false] 52) = x5 at *
      obtain ⟨gz, hgz⟩ : ∃ g, g = x1.heap.size := ⟨_, rfl⟩
      rw [← hgz] at VZ LZ ⊢
      clear hgz SA
      refine wpAnyH_ready (rs := [3]) (by kernel_rfl) (by simp) ?_
      refine AllReadyH.cons (by simp only [List.getElem?_toArray, List.getElem?_cons_succ, List.getElem?_cons_zero]; rfl) (fun K hK => ?_) AllReadyH.nil
      go_simp
      refine (tocl _ _ _ _ _).mono ?_
      rintro e x3 ⟨rfl, hM⟩
      refine hK.out _ _ (hH.trans (hM.mono hH.size)) (fun hH => ?_)
      clear hK K
      replace T0 := hid (T0.out.below hM)
      replace VZ := hid (var_below hM VZ.out)
      clear hM
      refine wpAnyH_ready (rs := [4]) (by kernel_rfl) (by simp) ?_
      refine AllReadyH.cons (by simp only [List.getElem?_toArray, List.getElem?_cons_succ, List.getElem?_cons_zero]; rfl) (fun K hK => ?_) AllReadyH.nil
      go_simp
      refine (IQ.out _ _ hk0 T0.out).mono ?_
      rintro e x4 ⟨v, rfl, hR, hM⟩
      obtain ⟨pv, kv, rfl, -, -, -⟩ := hR.parts
      refine hK.out _ _ (hH.trans (hM.mono hH.size)) (fun hH => ?_)
      clear hK K
      replace T0 := hid (T0.out.below hM)
      replace VZ := hid (var_below hM VZ.out)
      have RR := hid hR
      clear hR hM
      clear T0
      refine wpAnyH_ready (rs := [6]) (by kernel_rfl) (by simp) ?_
      refine AllReadyH.cons (by simp only [List.getElem?_toArray, List.getElem?_cons_succ, List.getElem?_cons_zero]; rfl) (fun K hK => ?_) AllReadyH.nil
      obtain ⟨⟨q0, q1, q2⟩, z0, z1, z2⟩ := var3_facts VZ.out
      go_simp
      have VE := hid (var3_set (x' := .int .i64 c) (y' := .slice pv l.length kv) (z' := .bool ct) VZ.out)
      have RE := hid (rdC_set3 (.int .i64 c) (.slice pv l.length kv) (.bool ct) RR.out VZ.out)
      have SE := hid (show gz < x4.heap.size from var_lt VZ.out)
      refine hK.out _ _ (((hH.setCell (p := ⟨gz, 0, none⟩) LZ.out (.int .i64 c)).setCell (p := ⟨gz, 1, none⟩) LZ.out (.slice pv l.length kv)).setCell (p := ⟨gz, 2, none⟩) LZ.out (.bool ct)) (fun hH => ?_)
      clear hK K VZ RR q0 q1 q2 z0 z1 z2
      have SX : ((((x4.setCell ⟨gz, 0, none⟩ (.int .i64 c)).setCell ⟨gz, 1, none⟩ (.slice pv l.length kv)).setCell ⟨gz, 2, none⟩ (.bool ct))).heap.size = x4.heap.size := by simp
      generalize (((x4.setCell ⟨gz, 0, none⟩ (.int .i64 c)).setCell ⟨gz, 1, none⟩ (.slice pv l.length kv)).setCell ⟨gz, 2, none⟩ (.bool ct)) = xE at *
      refine wpAnyH_done (by kernel_rfl) ?_ _
      exact leaf gz xE pv kv gT0 ⟨VE.out, RE.out, LZ.out, by have := SE.out; omega, hH⟩
    refine AllReadyH.cons (by simp only [List.getElem?_toArray, List.getElem?_cons_succ, List.getElem?_cons_zero]; rfl) (fun K hK => ?_) AllReadyH.nil
    go_simp
    have hM := below_alloc1 x (.cells #[.int .i64 0, .slice none 0 0, .bool false] 52)
    have LZ := hid hH.size
    have VZ := hid (heap_alloc_new x (.cells #[.int .i64 0, .slice none 0 0, .bool false] 52))
    refine hK.out _ _ (hH.alloc hH.size _) (fun hH => ?_)
    clear hK K hM
    have SA := hid (show x.heap.size < (x.alloc (.cells #[.int .i64 0, .slice none 0 0, .bool false] 52)).heap.size by simp)
    generalize x.alloc (.cells #[.int .i64 0, .slice none 0 0, .bool false] 52) = x5 at *
    obtain ⟨gz, hgz⟩ : ∃ g, g = x.heap.size := ⟨_, rfl⟩
    rw [← hgz] at VZ LZ ⊢
    clear hgz SA
    refine wpAnyH_ready (rs := [1]) (by kernel_rfl) (by simp) ?_
    refine AllReadyH.cons (by simp only [List.getElem?_toArray, List.getElem?_cons_succ, List.getElem?_cons_zero]; rfl) (fun K hK => ?_) AllReadyH.nil
    go_simp
    refine (toCS _ cs0 _ ((HA0.out.below BB.out).below hH) hk0).mono ?_
    rintro e x1 ⟨gT0, rfl, hF, hM⟩
    refine hK.out _ _ (hH.trans (hM.mono hH.size)) (fun hH => ?_)
    clear hK K
    replace VZ := hid (var_below hM VZ.out)
    have T0 := hid hF.rd
    clear hF hM
    refine wpAnyH_ready (rs := [3]) (by kernel_rfl) (by simp) ?_
    refine AllReadyH.cons (by simp only [List.getElem?_toArray, List.getElem?_cons_succ, List.getElem?_cons_zero]; rfl) (fun K hK => ?_) AllReadyH.nil
    go_simp
    refine (tocl _ _ _ _ _).mono ?_
    rintro e x3 ⟨rfl, hM⟩
    refine hK.out _ _ (hH.trans (hM.mono hH.size)) (fun hH => ?_)
    clear hK K
    replace T0 := hid (T0.out.below hM)
    replace VZ := hid (var_below hM VZ.out)
    clear hM
    refine wpAnyH_ready (rs := [4]) (by kernel_rfl) (by simp) ?_
    refine AllReadyH.cons (by simp only [List.getElem?_toArray, List.getElem?_cons_succ, List.getElem?_cons_zero]; rfl) (fun K hK => ?_) AllReadyH.nil
    go_simp
    refine (IQ.out _ _ hk0 T0.out).mono ?_
    rintro e x4 ⟨v, rfl, hR, hM⟩
    obtain ⟨pv, kv, rfl, -, -, -⟩ := hR.parts
    refine hK.out _ _ (hH.trans (hM.mono hH.size)) (fun hH => ?_)
    clear hK K
    replace T0 := hid (T0.out.below hM)
    replace VZ := hid (var_below hM VZ.out)
    have RR := hid hR
    clear hR hM
    clear T0
    refine wpAnyH_ready (rs := [6]) (by kernel_rfl) (by simp) ?_
    refine AllReadyH.cons (by simp only [List.getElem?_toArray, List.getElem?_cons_succ, List.getElem?_cons_zero]; rfl) (fun K hK => ?_) AllReadyH.nil
    obtain ⟨⟨q0, q1, q2⟩, z0, z1, z2⟩ := var3_facts VZ.out
    go_simp
    have VE := hid (var3_set (x' := .int .i64 c) (y' := .slice pv l.length kv) (z' := .bool ct) VZ.out)
    have RE := hid (rdC_set3 (.int .i64 c) (.slice pv l.length kv) (.bool ct) RR.out VZ.out)
    have SE := hid (show gz < x4.heap.size from var_lt VZ.out)
    refine hK.out _ _ (((hH.setCell (p := ⟨gz, 0, none⟩) LZ.out (.int .i64 c)).setCell (p := ⟨gz, 1, none⟩) LZ.out (.slice pv l.length kv)).setCell (p := ⟨gz, 2, none⟩) LZ.out (.bool ct)) (fun hH => ?_)
    clear hK K VZ RR q0 q1 q2 z0 z1 z2
    have SX : ((((x4.setCell ⟨gz, 0, none⟩ (.int .i64 c)).setCell ⟨gz, 1, none⟩ (.slice pv l.length kv)).setCell ⟨gz, 2, none⟩ (.bool ct))).heap.size = x4.heap.size := by simp
    generalize (((x4.setCell ⟨gz, 0, none⟩ (.int .i64 c)).setCell ⟨gz, 1, none⟩ (.slice pv l.length kv)).setCell ⟨gz, 2, none⟩ (.bool ct)) = xE at *
    refine wpAnyH_done (by kernel_rfl) ?_ _
    exact leaf gz xE pv kv gT0 ⟨VE.out, RE.out, LZ.out, by have := SE.out; omega, hH⟩
  case leaf =>
  intro gH w14a pH kH gT0 ⟨hVH, hRH, hgz, hlt, hB⟩
  clear a0 a1 a2 a3
  have VH := hid hVH
  have OH := hid hRH
  replace VA := hid (var_below hB VA.out)
  replace VW := hid (var_below hB VW.out)
  replace VG := hid (var_below hB VG.out)
  replace OG := hid (OG.out.below hB)
  replace BB := hid (BB.out.trans (hB.mono BB.out.size))
  replace BW := hid (BW.out.trans (hB.mono BW.out.size))
  clear hVH hRH hgz hlt hB
  obtain ⟨⟨vw_0, vw_1, vw_2⟩, -⟩ := var3_facts VW.out
  obtain ⟨⟨vg_0, vg_1, vg_2⟩, -⟩ := var3_facts VG.out
  obtain ⟨⟨vh_0, vh_1, vh_2⟩, -⟩ := var3_facts VH.out
  go_wp2_with fail
  clear vw_0 vw_1 vw_2 vg_0 vg_1 vg_2 vh_0 vh_1 vh_2
  refine (eqVR c ct _ _ l _ OH.out (RW.out.below BW.out) hl).mono ?_
  rintro e w15 ⟨rfl, hB⟩
  replace VW := hid (var_below hB VW.out)
  replace VG := hid (var_below hB VG.out)
  replace VH := hid (var_below hB VH.out)
  replace OG := hid (OG.out.below hB)
  replace OH := hid (OH.out.below hB)
  replace BB := hid (BB.out.trans (hB.mono BB.out.size))
  replace VA := hid (var_below hB VA.out)
  replace BW := hid (BW.out.trans (hB.mono BW.out.size))
  have Z18 := hid (hB.size)
  clear hB
  clear OH
  obtain ⟨⟨vw_0, vw_1, vw_2⟩, -⟩ := var3_facts VW.out
  obtain ⟨⟨vg_0, vg_1, vg_2⟩, -⟩ := var3_facts VG.out
  obtain ⟨⟨vh_0, vh_1, vh_2⟩, -⟩ := var3_facts VH.out
  go_wp2_with fail
  clear vw_0 vw_1 vw_2 vg_0 vg_1 vg_2 vh_0 vh_1 vh_2
  refine (heldVRo c ct _ l 1 _ rfl _ OG.out.rd hl (by omega)).mono ?_
  rintro e w16 ⟨rfl, hB⟩
  rw [← HM.out]
  replace VW := hid (var_below hB VW.out)
  replace VG := hid (var_below hB VG.out)
  replace VH := hid (var_below hB VH.out)
  replace OG := hid (OG.out.below hB)
  replace BB := hid (BB.out.trans (hB.mono BB.out.size))
  replace VA := hid (var_below hB VA.out)
  replace BW := hid (BW.out.trans (hB.mono BW.out.size))
  have Z19 := hid (hB.size)
  clear hB
  go_wp2
  go_ret
  exact ⟨rfl, BB.out⟩
end Go.Proofs.Ytpcndgmmdpgpman.W
