/-
  What is sealed: what the program's heads answer where they seal.
  A letter that is sealed: what the program's SealLetter answers.
-/
import Derived.Test.YtckgjghpfjinfakGreatGESealLetter2
import Derived.Test.YtckgjghpfjinfakGreatGESealLetter4
import Derived.Test.YtckgjghpfjinfakGreatLetF
import Derived.Test.YtckgjghpfjinfakGreatSlF

namespace Go.Proofs.YtckgjghpfjinfakGreat.W
open Go.ChangeShapes Go.WideShapes Go.ChangeAt Go.RowKit
open Go.Proofs.YtckgjghpfjinfakGreat.M

set_option maxHeartbeats 2000000 in
set_option maxRecDepth 100000 in
theorem ihseal (k : List Nat) (hk hs hn : Nat) (vs : Value) (s : List Nat) (w : World) (h : Rd w vs s) (yk : Byt k) (ys : Byt s) (hl : k.length = 16) (h1 : hk ≤ 255) (h2 : hs ≤ 15) (h3 : hn ≤ 1000000000) :
    Calls Tryz.prog 29 #[.agg #[.int .i64 (hs : Int), .int .i64 (hn : Int), .int .i64 (hk : Int)], .agg (arr k), vs] w fun r w' => ∃ v, r = .returned (.agg #[.int .i64 (slC k (nonceL hs hn) (headL hk hs hn) s), v]) ∧ Owx w' w.heap.size v (slB k (nonceL hs hn) (headL hk hs hn) s) ∧ Below w.heap.size w w' := by
  have H := hid h
  obtain ⟨a, cap, rfl, -, -, -⟩ := h.parts
  have HL := hid hl
  have YK := hid yk
  have YS := hid ys
  clear h hl yk ys
  go_enter Tryz.func29, Tryz.ntmps29
  go_wp2_with fail
  have VH : (((w.alloc (.cells #[.int .i64 (hs : Int), .int .i64 (hn : Int), .int .i64 (hk : Int)] 71)).alloc (.cells (arr k) 63)).alloc (.cells #[.int .i64 0, .slice none 0 0] 31)).heap[w.heap.size]? = some (.cells #[.int .i64 (hs : Int), .int .i64 (hn : Int), .int .i64 (hk : Int)] 71) := var_alloc (.cells #[.int .i64 0, .slice none 0 0] 31) (heap_alloc2_old w (.cells #[.int .i64 (hs : Int), .int .i64 (hn : Int), .int .i64 (hk : Int)] 71) (.cells (arr k) 63))
  have VK := hid (show (((w.alloc (.cells #[.int .i64 (hs : Int), .int .i64 (hn : Int), .int .i64 (hk : Int)] 71)).alloc (.cells (arr k) 63)).alloc (.cells #[.int .i64 0, .slice none 0 0] 31)).heap[w.heap.size + 1]? = some (.cells (arr k) 63) from var_alloc (.cells #[.int .i64 0, .slice none 0 0] 31) (heap_alloc2_new w (.cells #[.int .i64 (hs : Int), .int .i64 (hn : Int), .int .i64 (hk : Int)] 71) (.cells (arr k) 63)))
  have VR : (((w.alloc (.cells #[.int .i64 (hs : Int), .int .i64 (hn : Int), .int .i64 (hk : Int)] 71)).alloc (.cells (arr k) 63)).alloc (.cells #[.int .i64 0, .slice none 0 0] 31)).heap[w.heap.size + 1 + 1]? = some (.cells #[.int .i64 0, .slice none 0 0] 31) := by
    have h := heap_alloc_new ((w.alloc (.cells #[.int .i64 (hs : Int), .int .i64 (hn : Int), .int .i64 (hk : Int)] 71)).alloc (.cells (arr k) 63)) (.cells #[.int .i64 0, .slice none 0 0] 31)
    rw [World.size_alloc, World.size_alloc] at h
    exact h
  have BB := hid (show Below w.heap.size w (((w.alloc (.cells #[.int .i64 (hs : Int), .int .i64 (hn : Int), .int .i64 (hk : Int)] 71)).alloc (.cells (arr k) 63)).alloc (.cells #[.int .i64 0, .slice none 0 0] 31)) from (((Below.refl _ _).alloc (Nat.le_refl _) _).alloc (by simp) _).alloc (by simp; omega) _)
  have SG1 := hid (show w.heap.size + 1 + 1 < (((w.alloc (.cells #[.int .i64 (hs : Int), .int .i64 (hn : Int), .int .i64 (hk : Int)] 71)).alloc (.cells (arr k) 63)).alloc (.cells #[.int .i64 0, .slice none 0 0] 31)).heap.size by simp)
  replace H := hid (H.out.below BB.out)
  generalize (((w.alloc (.cells #[.int .i64 (hs : Int), .int .i64 (hn : Int), .int .i64 (hk : Int)] 71)).alloc (.cells (arr k) 63)).alloc (.cells #[.int .i64 0, .slice none 0 0] 31)) = w0 at *
  obtain ⟨gr, hgr⟩ : ∃ g, g = w.heap.size + 1 + 1 := ⟨_, rfl⟩
  obtain ⟨gk, hgk⟩ : ∃ g, g = w.heap.size + 1 := ⟨_, rfl⟩
  obtain ⟨gh, hgh⟩ : ∃ g, g = w.heap.size := ⟨_, rfl⟩
  have LH := hid (show gh < gr by omega)
  have SZ0 := hid (show w.heap.size ≤ gr by omega)
  rw [← hgr] at VR SG1 ⊢
  rw [← hgk] at VK ⊢
  rw [← hgh] at VH ⊢
  have SG := hid (Nat.le_of_lt SG1.out)
  replace VR := hid VR
  clear hgr hgk hgh
  obtain ⟨⟨c0, c1, c2⟩, -⟩ := var3_facts VH
  clear VH
  refine wp_region_held_drew (S := fun w' => Below gr w0 w') (by kernel_rfl) (Below.refl _ _).drew (fun hH => ?_)
  replace VK := hid (show w0.drew.heap[gk]? = _ from VK.out)
  replace VR := hid (show w0.drew.heap[gr]? = _ from VR.out)
  replace H := hid (show Rd w0.drew _ _ from H.out)
  generalize w0.drew = x at hH VK VR H ⊢
  refine wpAnyH_take (i := 0) (v := .pointer (some ⟨gk, 0, none⟩)) (by simp only [List.getElem?_toArray, List.getElem?_cons_zero]; rfl) (by kernel_rfl) (by kernel_rfl) (by kernel_rfl) (by intro _ _ _ h; exact h) (Or.inl ⟨by rfl, fun w hS => by go_simp⟩) hH ?_
  simp only [Act.put, List.setIfInBounds_toArray, List.set_cons_zero, List.set_cons_succ]
  refine wpAnyH_take (i := 1) (v := .slice (some ⟨gk, 0, none⟩) 16 16) (by simp only [List.getElem?_toArray, List.getElem?_cons_succ, List.getElem?_cons_zero]; rfl) (by kernel_rfl) (by kernel_rfl) (by kernel_rfl) (by intro _ _ _ h; exact h) (Or.inl ⟨by rfl, fun w hS => by go_simp⟩) hH ?_
  simp only [Act.put, List.setIfInBounds_toArray, List.set_cons_zero, List.set_cons_succ]
  refine wpAnyH_take (i := 2) (v := .pointer (some ⟨gh, 0, none⟩)) (by simp only [List.getElem?_toArray, List.getElem?_cons_succ, List.getElem?_cons_zero]; rfl) (by kernel_rfl) (by kernel_rfl) (by kernel_rfl) (by intro _ _ _ h; exact h) (Or.inl ⟨by rfl, fun w hS => by go_simp⟩) hH ?_
  simp only [Act.put, List.setIfInBounds_toArray, List.set_cons_zero, List.set_cons_succ]
  refine wpAnyH_take (i := 3) (v := .agg #[.int .i64 (hs : Int), .int .i64 (hn : Int)]) (by simp only [List.getElem?_toArray, List.getElem?_cons_succ, List.getElem?_cons_zero]; rfl) (by kernel_rfl) (by kernel_rfl) (by kernel_rfl) (by intro _ _ _ h; exact h) (Or.inl ⟨by rfl, fun w hS => by (have y0 := cell_low hS c0 LH.out; have y1 := cell_low hS c1 LH.out; go_simp)⟩) hH ?_
  simp only [Act.put, List.setIfInBounds_toArray, List.set_cons_zero, List.set_cons_succ]
  refine wpAnyH_take (i := 5) (v := .agg #[.int .i64 (hs : Int), .int .i64 (hn : Int), .int .i64 (hk : Int)]) (by simp only [List.getElem?_toArray, List.getElem?_cons_succ, List.getElem?_cons_zero]; rfl) (by kernel_rfl) (by kernel_rfl) (by kernel_rfl) (by intro _ _ _ h; exact h) (Or.inl ⟨by rfl, fun w hS => by (have y0 := cell_low hS c0 LH.out; have y1 := cell_low hS c1 LH.out; have y2 := cell_low hS c2 LH.out; go_simp)⟩) hH ?_
  simp only [Act.put, List.setIfInBounds_toArray, List.set_cons_zero, List.set_cons_succ]
  refine wpAnyH_take (i := 7) (v := .slice a s.length cap) (by simp only [List.getElem?_toArray, List.getElem?_cons_succ, List.getElem?_cons_zero]; rfl) (by kernel_rfl) (by kernel_rfl) (by kernel_rfl) (by intro _ _ _ h; exact h) (Or.inl ⟨by rfl, fun w hS => by go_simp⟩) hH ?_
  simp only [Act.put, List.setIfInBounds_toArray, List.set_cons_zero, List.set_cons_succ]
  refine wpAnyH_ready (rs := [4]) (by kernel_rfl) (by simp) ?_
  refine AllReadyH.cons (by simp only [List.getElem?_toArray, List.getElem?_cons_succ, List.getElem?_cons_zero]; rfl) (fun K hK => ?_) AllReadyH.nil
  go_simp
  refine (inonce hs hn _ h2 h3).mono ?_
  rintro e x4 ⟨v4, rfl, hO, hM⟩
  obtain ⟨p4, k4, rfl, -, -, -⟩ := hO.rd.parts
  have SB := hid hH.size
  refine hK.out _ _ (hH.trans (hM.mono (Nat.le_trans SG.out hH.size))) (fun hH => ?_)
  clear hK K
  replace VK := hid (var_below hM VK.out)
  replace VR := hid (var_below hM VR.out)
  replace H := hid (H.out.below hM)
  have R4 := hid (hO.rd)
  clear hM SB
  refine wpAnyH_ready (rs := [6]) (by kernel_rfl) (by simp) ?_
  refine AllReadyH.cons (by simp only [List.getElem?_toArray, List.getElem?_cons_succ, List.getElem?_cons_zero]; rfl) (fun K hK => ?_) AllReadyH.nil
  go_simp
  refine (ipacked hk hs hn _ h1 h2 h3).mono ?_
  rintro e x6 ⟨v6, rfl, hO, hM⟩
  obtain ⟨p6, k6, rfl, -, -, -⟩ := hO.rd.parts
  have SB := hid hH.size
  refine hK.out _ _ (hH.trans (hM.mono (Nat.le_trans SG.out hH.size))) (fun hH => ?_)
  clear hK K
  replace VK := hid (var_below hM VK.out)
  replace VR := hid (var_below hM VR.out)
  replace H := hid (H.out.below hM)
  replace R4 := hid (R4.out.below hM)
  have R6 := hid (hO.rd)
  clear hM SB
  refine wpAnyH_ready (rs := [8]) (by kernel_rfl) (by simp) ?_
  refine AllReadyH.cons (by simp only [List.getElem?_toArray, List.getElem?_cons_succ, List.getElem?_cons_zero]; rfl) (fun K hK => ?_) AllReadyH.nil
  go_simp
  refine (isl _ _ _ _ k (nonceL hs hn) (headL hk hs hn) s _ (Owx.ofAr (show Ar _ gk 63 k from VK.out) HL.out (Nat.le_refl gk) (by unfold maxLen; omega)).rd R4.out R6.out H.out YK.out (nonceL_byt _ _) (headL_byt _ _ _ (by omega) (by omega)) YS.out).mono ?_
  rintro e x8 ⟨v8, rfl, hO, hM⟩
  obtain ⟨p8, k8, rfl, -, -, -⟩ := hO.rd.parts
  have LX := hid (show gr < _ from Nat.lt_of_lt_of_le SG1.out hH.size)
  have SX := hid hH.size
  have SB := hid hH.size
  refine hK.out _ _ (hH.trans (hM.mono (Nat.le_trans SG.out hH.size))) (fun hH => ?_)
  clear hK K
  replace VK := hid (var_below hM VK.out)
  replace VR := hid (var_below hM VR.out)
  replace H := hid (H.out.below hM)
  replace R4 := hid (R4.out.below hM)
  replace R6 := hid (R6.out.below hM)
  have OE := hid hO
  obtain ⟨cc, hcc⟩ : ∃ x, x = slC k (nonceL hs hn) (headL hk hs hn) s := ⟨_, rfl⟩
  obtain ⟨m8, hm8⟩ : ∃ x, x = (slB k (nonceL hs hn) (headL hk hs hn) s).length := ⟨_, rfl⟩
  rw [← hcc, ← hm8]
  rw [← hm8] at OE
  replace hcc := hid hcc
  replace hm8 := hid hm8
  clear hO
  clear hM SB
  clear R4 R6 H VK
  refine wpAnyH_ready (rs := [9]) (by kernel_rfl) (by simp) ?_
  refine AllReadyH.cons (by simp only [List.getElem?_toArray, List.getElem?_cons_succ, List.getElem?_cons_zero]; rfl) (fun K hK => ?_) AllReadyH.nil
  obtain ⟨e0, e1, e2, e3⟩ := var2_facts VR.out
  go_simp
  have V2 := hid (var2_set (x' := .int .i64 cc) (y' := .slice p8 m8 k8) VR.out)
  have OB2 := hid (OE.out.set2 (g := gr) (x := .int .i64 cc) (y := .slice p8 m8 k8) LX.out)
  have SB2 := hid hH.size
  refine hK.out _ _ ((hH.setCell (p := ⟨gr, 0, none⟩) (Nat.le_refl _) _).setCell (p := ⟨gr, 1, none⟩) (Nat.le_refl _) _) (fun hH => ?_)
  clear hK K e0 e1 e2 e3
  refine wpAnyH_done (by kernel_rfl) ?_ _
  have BN := hid (BB.out.trans (hH.mono SZ0.out))
  clear hH
  go_wp2
  exact bodyPost_ret (v := .agg #[.int .i64 cc, .slice p8 m8 k8]) (results_cell_row rfl _ _ gr 31 _ _ _ rfl V2.out Tryz.underlying31 rfl (by kernel_rfl)) rfl ⟨_, congrArg (fun z => Ending.returned (.agg #[.int .i64 z, .slice p8 m8 k8])) hcc.out, OB2.out.mono (Nat.le_trans BB.out.size SX.out), BN.out⟩
end Go.Proofs.YtckgjghpfjinfakGreat.W

namespace Go.Proofs.YtckgjghpfjinfakGreat.W
open Go.ChangeShapes Go.WideShapes Go.ChangeAt Go.RowKit
open Go.Proofs.YtckgjghpfjinfakGreat.M

theorem arr_injs {a b : List Nat} (h : arr a = arr b) : a = b := by
  have h1 : a.map bv = b.map bv := by
    have := congrArg Array.toList h
    simpa [arr] using this
  have inj : ∀ x y : Nat, bv x = bv y → x = y := fun x y e => by
    have e2 : (x : Int) = (y : Int) := by simpa [bv] using e
    omega
  exact (List.map_inj_right inj).1 h1
theorem ins_drew {lo hi : Nat} {a w : World} (h : Ins lo hi a w) : Ins lo hi a w.drew := ⟨h.os, h.tape, h.output, h.size, h.block⟩
theorem ins_grow {lo hi : Nat} {a w w' : World} {row : Option Nat} (h : Ins lo hi a w) (hg : w.grownBy w' row) (hr : ∀ k, row = some k → a.heap.size ≤ k) : Ins lo hi a w' :=
  ⟨hg.os.trans h.os, hg.tape.trans h.tape, hg.output.trans h.output, Nat.le_trans h.size hg.size, fun k hk q => (hg.block k (Nat.lt_of_lt_of_le hk h.size) (fun e => by have := hr k e.symm; omega)).trans (h.block k hk q)⟩
theorem ins_setAt {lo hi : Nat} {a w : World} (h : Ins lo hi a w) {p : Addr} (h1 : lo ≤ p.block) (h2 : p.block < hi) (u : Value) : Ins lo hi a (w.setCell p u) :=
  ⟨h.os, h.tape, h.output, by have := h.size; simpa [World.setCell] using this, fun k hk q => (Below.heap_setCell _ _ _ _ (by omega)).trans (h.block k hk q)⟩
theorem cell_ins {lo hi : Nat} {w w' : World} (hS : Ins lo hi w w') {b o : Nat} {u : Value} (hc : w.cell? ⟨b, o, none⟩ = some u) (hb : b < lo ∨ hi ≤ b) : w'.cell? ⟨b, o, none⟩ = some u :=
  (World.cell?_of_block (w := w) (a := ⟨b, o, none⟩) (hS.block b (World.block_lt_of_cell? w _ hc) hb)).trans hc
theorem row_rng {w : World} {g : Nat} {cs : Array Value} {T : TypeId} (q : w.heap[g]? = some (.cells cs T)) : w.rangeAt g 0 cs.toList := fun i v hv => by
  rw [cell_of_row w g (0 + i) _ _ _ q, Nat.zero_add]
  simpa using hv
set_option maxHeartbeats 4000000 in
set_option maxRecDepth 100000 in
theorem isealL (p k s n : Int) (v vt : Value) (ks : List (Int × List Nat)) (l : List Nat) (c : Int) (t : List Nat) (w : World) (h : RdK w v ks) (hl : Rd w vt l) (yk : KBy ks) (yl : Byt l) (hp : (Lit.int .i64 p).wf = true) (hF : slIs p ks k s n l c t) :
    Calls Tryz.prog 9 #[.agg #[.int .i64 p, v], .agg #[.int .i64 k, .int .i64 s, .int .i64 n, vt]] w fun e w' => ∃ v', e = .returned (.agg #[.int .i64 c, v']) ∧ OB w' w.heap.size w'.heap.size v' t ∧ Below w.heap.size w w' := by
  have H := hid h
  have HL := hid hl
  have HF := hid hF
  have YK := hid yk
  have YL := hid yl
  obtain ⟨a, cap, rfl, -, -, -⟩ := h.parts
  obtain ⟨al, capl, rfl, hlc, hcm, -⟩ := hl.parts
  have LM := hid (Nat.le_trans hlc hcm)
  clear h hl hF yk yl hlc hcm
  have VL := hid (show (((w.alloc (.cells #[.int .i64 p, .slice a ks.length cap] 35)).alloc (.cells #[.int .i64 k, .int .i64 s, .int .i64 n, .slice al l.length capl] 37)).alloc (.cells #[.int .i64 0, .slice none 0 0] 31)).heap[w.heap.size + 1]? = some (.cells #[.int .i64 k, .int .i64 s, .int .i64 n, .slice al l.length capl] 37) from var_alloc (.cells #[.int .i64 0, .slice none 0 0] 31) (heap_alloc2_new w (.cells #[.int .i64 p, .slice a ks.length cap] 35) (.cells #[.int .i64 k, .int .i64 s, .int .i64 n, .slice al l.length capl] 37)))
  have VR : (((w.alloc (.cells #[.int .i64 p, .slice a ks.length cap] 35)).alloc (.cells #[.int .i64 k, .int .i64 s, .int .i64 n, .slice al l.length capl] 37)).alloc (.cells #[.int .i64 0, .slice none 0 0] 31)).heap[w.heap.size + 1 + 1]? = some (.cells #[.int .i64 0, .slice none 0 0] 31) := by
    have h := heap_alloc_new ((w.alloc (.cells #[.int .i64 p, .slice a ks.length cap] 35)).alloc (.cells #[.int .i64 k, .int .i64 s, .int .i64 n, .slice al l.length capl] 37)) (.cells #[.int .i64 0, .slice none 0 0] 31)
    rw [World.size_alloc, World.size_alloc] at h
    exact h
  have BB := hid (show Below w.heap.size w (((w.alloc (.cells #[.int .i64 p, .slice a ks.length cap] 35)).alloc (.cells #[.int .i64 k, .int .i64 s, .int .i64 n, .slice al l.length capl] 37)).alloc (.cells #[.int .i64 0, .slice none 0 0] 31)) from (((Below.refl _ _).alloc (Nat.le_refl _) _).alloc (by simp) _).alloc (by simp; omega) _)
  replace H := hid (H.out.below BB.out)
  replace HL := hid (HL.out.below BB.out)
  replace VR := hid VR
  go_enter Tryz.func9, Tryz.ntmps9
  go_wp2_with fail
  generalize (((w.alloc (.cells #[.int .i64 p, .slice a ks.length cap] 35)).alloc (.cells #[.int .i64 k, .int .i64 s, .int .i64 n, .slice al l.length capl] 37)).alloc (.cells #[.int .i64 0, .slice none 0 0] 31)) = w0 at *
  obtain ⟨g2, hg2⟩ : ∃ g, g = w.heap.size + 1 + 1 := ⟨_, rfl⟩
  obtain ⟨g1, hg1⟩ : ∃ g, g = w.heap.size + 1 := ⟨_, rfl⟩
  have LG := hid (show w.heap.size ≤ g2 by omega)
  have L12 := hid (show g1 < g2 by omega)
  rw [← hg2] at VR ⊢
  rw [← hg1] at VL ⊢
  clear hg1 hg2
  refine (ikrD p _ ks _ H.out hp).mono ?_
  rintro e w1 ⟨r, rfl, hr, hB⟩
  replace VL := hid (var_below hB VL.out)
  replace VR := hid (var_below hB VR.out)
  replace HL := hid (HL.out.below hB)
  replace BB := hid (BB.out.trans (hB.mono BB.out.size))
  clear hB
  obtain ⟨f, hf⟩ : ∃ f, f = rF p ks := ⟨_, rfl⟩
  rw [← hf] at hr ⊢
  by_cases h0 : f = 0
  · obtain ⟨g, b, D, rfl, -, -, hR1⟩ := hr h0
    subst h0
    obtain ⟨k1, k3, k16, -, -⟩ := rF_parts hf.symm
    replace hf := hid hf
    have R1 := hid hR1
    have K16 := hid (fun i hi => (k16 i hi).2)
    clear hr hR1 k16
    obtain ⟨⟨d0, d1, d2, d3⟩, -⟩ := var4_facts VL.out
    go_wp2_with fail
    clear d0 d1 d2 d3
    refine (ilf k s n _ _ _ _ LM.out).mono ?_
    rintro e w4 ⟨rfl, hB⟩
    replace VL := hid (var_below hB VL.out)
    replace VR := hid (var_below hB VR.out)
    replace HL := hid (HL.out.below hB)
    replace BB := hid (BB.out.trans (hB.mono BB.out.size))
    replace R1 := hid (R1.out.below hB)
    clear hB
    obtain ⟨fl, hfl⟩ : ∃ f, f = lF k s n l.length := ⟨_, rfl⟩
    rw [← hfl]
    by_cases h1 : fl = 0
    · subst h1
      obtain ⟨hok, l300⟩ := lF_zero hfl.symm
      have HOK := hid hok
      replace hfl := hid hfl
      have WK := hid (show (Lit.int .i64 k).wf = true from WalkArith.wf_i64 (by have := hok.1; omega))
      have L300 := hid l300
      clear hok l300
      obtain ⟨⟨d0, d1, d2, d3⟩, -⟩ := var4_facts VL.out
      obtain ⟨f0, f1, -, -⟩ := var2_facts R1.out.block
      obtain ⟨lx, l16, hat, hlk⟩ := look_at (b := b) (n := ks.length) R1.out.good k WK.out
      have L16 := hid l16
      have AT := hid hat
      have LK := hid hlk
      clear l16 hat hlk
      have Zs := hid (show (Tryz.prog.info? 63).map (·.size) = some (arr lx).size by rw [arr_size, L16.out]; kernel_rfl)
      obtain ⟨tb, htb⟩ : ∃ x, x = Maps.has D (.int .i64 k) := ⟨_, rfl⟩
      rw [← htb] at LK
      replace htb := hid htb
      go_wp2_with fail
      have GB2 := hid (show g2 < w4.heap.size from var_lt VR.out)
      refine wp_region_held_drew (S := fun w' => Below w4.heap.size w4 w') (by kernel_rfl) (Below.refl _ _).drew (fun hH => ?_)
      generalize w4.drew = x at hH ⊢
      refine wpAnyH_take (i := 0) (v := .pointer (some ⟨g, 0, none⟩)) (by simp only [List.getElem?_toArray, List.getElem?_cons_zero]; rfl) (by kernel_rfl) (by kernel_rfl) (by kernel_rfl) (by intro _ _ _ h; exact h) (Or.inl ⟨by rfl, fun w hS => by go_simp⟩) hH ?_
      simp only [Act.put, List.setIfInBounds_toArray, List.set_cons_zero, List.set_cons_succ]
      refine wpAnyH_take (i := 1) (v := .pointer (some ⟨g, 0, none⟩)) (by simp only [List.getElem?_toArray, List.getElem?_cons_succ, List.getElem?_cons_zero]; rfl) (by kernel_rfl) (by kernel_rfl) (by kernel_rfl) (by intro _ _ _ h; exact h) (Or.inl ⟨by rfl, fun w hS => by go_simp⟩) hH ?_
      simp only [Act.put, List.setIfInBounds_toArray, List.set_cons_zero, List.set_cons_succ]
      refine wpAnyH_take (i := 2) (v := .pointer (some ⟨g, 1, none⟩)) (by simp only [List.getElem?_toArray, List.getElem?_cons_succ, List.getElem?_cons_zero]; rfl) (by kernel_rfl) (by kernel_rfl) (by kernel_rfl) (by intro _ _ _ h; exact h) (Or.inl ⟨by rfl, fun w hS => by go_simp⟩) hH ?_
      simp only [Act.put, List.setIfInBounds_toArray, List.set_cons_zero, List.set_cons_succ]
      refine wpAnyH_take (i := 3) (v := .map (some b)) (by simp only [List.getElem?_toArray, List.getElem?_cons_succ, List.getElem?_cons_zero]; rfl) (by kernel_rfl) (by kernel_rfl) (by kernel_rfl) (by intro _ _ _ h; exact h) (Or.inl ⟨by rfl, fun w hS => by (have y0 := cell_kept hS f1; go_simp)⟩) hH ?_
      simp only [Act.put, List.setIfInBounds_toArray, List.set_cons_zero, List.set_cons_succ]
      refine wpAnyH_take (i := 4) (v := .pointer (some ⟨g1, 0, none⟩)) (by simp only [List.getElem?_toArray, List.getElem?_cons_succ, List.getElem?_cons_zero]; rfl) (by kernel_rfl) (by kernel_rfl) (by kernel_rfl) (by intro _ _ _ h; exact h) (Or.inl ⟨by rfl, fun w hS => by go_simp⟩) hH ?_
      simp only [Act.put, List.setIfInBounds_toArray, List.set_cons_zero, List.set_cons_succ]
      refine wpAnyH_take (i := 5) (v := .int .i64 k) (by simp only [List.getElem?_toArray, List.getElem?_cons_succ, List.getElem?_cons_zero]; rfl) (by kernel_rfl) (by kernel_rfl) (by kernel_rfl) (by intro _ _ _ h; exact h) (Or.inl ⟨by rfl, fun w hS => by (have y0 := cell_kept hS d0; go_simp)⟩) hH ?_
      simp only [Act.put, List.setIfInBounds_toArray, List.set_cons_zero, List.set_cons_succ]
      refine wpAnyH_take (i := 6) (v := .tuple #[.agg (arr lx), .bool tb]) (by simp only [List.getElem?_toArray, List.getElem?_cons_succ, List.getElem?_cons_zero]; rfl) (by kernel_rfl) (by kernel_rfl) (by kernel_rfl) (by intro _ _ _ h; exact h) (Or.inl ⟨by rfl, fun w hS => by (have y := LK.out w (R1.out.map.below hS); go_simp)⟩) hH ?_
      simp only [Act.put, List.setIfInBounds_toArray, List.set_cons_zero, List.set_cons_succ]
      refine wpAnyH_take (i := 7) (v := .tuple #[.agg (arr lx), .bool tb]) (by simp only [List.getElem?_toArray, List.getElem?_cons_succ, List.getElem?_cons_zero]; rfl) (by kernel_rfl) (by kernel_rfl) (by kernel_rfl) (by intro _ _ _ h; exact h) (Or.inl ⟨by rfl, fun w hS => by go_simp⟩) hH ?_
      simp only [Act.put, List.setIfInBounds_toArray, List.set_cons_zero, List.set_cons_succ]
      refine wpAnyH_take (i := 8) (v := .agg (arr lx)) (by simp only [List.getElem?_toArray, List.getElem?_cons_succ, List.getElem?_cons_zero]; rfl) (by kernel_rfl) (by kernel_rfl) (by kernel_rfl) (by intro _ _ _ h; exact h) (Or.inl ⟨by rfl, fun w hS => by go_simp⟩) hH ?_
      simp only [Act.put, List.setIfInBounds_toArray, List.set_cons_zero, List.set_cons_succ]
      refine wpAnyH_take (i := 9) (v := .bool tb) (by simp only [List.getElem?_toArray, List.getElem?_cons_succ, List.getElem?_cons_zero]; rfl) (by kernel_rfl) (by kernel_rfl) (by kernel_rfl) (by intro _ _ _ h; exact h) (Or.inl ⟨by rfl, fun w hS => by go_simp⟩) hH ?_
      simp only [Act.put, List.setIfInBounds_toArray, List.set_cons_zero, List.set_cons_succ]
      refine wpAnyH_ready (rs := [10]) (by kernel_rfl) (by simp) ?_
      refine AllReadyH.cons (by simp only [List.getElem?_toArray, List.getElem?_cons_succ, List.getElem?_cons_zero]; rfl) (fun K hK => ?_) AllReadyH.nil
      go_simp
      have hM := below_alloc1 x (.cells #[.int .u8 0, .int .u8 0, .int .u8 0, .int .u8 0, .int .u8 0, .int .u8 0, .int .u8 0, .int .u8 0, .int .u8 0, .int .u8 0, .int .u8 0, .int .u8 0, .int .u8 0, .int .u8 0, .int .u8 0, .int .u8 0] 63)
      have LX := hid hH.size
      have VK := hid (heap_alloc_new x (.cells #[.int .u8 0, .int .u8 0, .int .u8 0, .int .u8 0, .int .u8 0, .int .u8 0, .int .u8 0, .int .u8 0, .int .u8 0, .int .u8 0, .int .u8 0, .int .u8 0, .int .u8 0, .int .u8 0, .int .u8 0, .int .u8 0] 63))
      refine hK.out _ _ (hH.alloc hH.size _) (fun hH => ?_)
      clear hK K hM
      generalize x.alloc (.cells #[.int .u8 0, .int .u8 0, .int .u8 0, .int .u8 0, .int .u8 0, .int .u8 0, .int .u8 0, .int .u8 0, .int .u8 0, .int .u8 0, .int .u8 0, .int .u8 0, .int .u8 0, .int .u8 0, .int .u8 0, .int .u8 0] 63) = x10 at *
      obtain ⟨gx, hgx⟩ : ∃ g, g = x.heap.size := ⟨_, rfl⟩
      rw [← hgx] at VK LX ⊢
      clear hgx
      refine wpAnyH_ready (rs := [11]) (by kernel_rfl) (by simp) ?_
      refine AllReadyH.cons (by simp only [List.getElem?_toArray, List.getElem?_cons_succ, List.getElem?_cons_zero]; rfl) (fun K hK => ?_) AllReadyH.nil
      refine step_store_row (by rfl) _ _ _ (by rfl) gx (arr lx) (by rfl) (by rfl) 63 _ VK.out Zs.out (by rw [arr_size, L16.out]; rfl) (arr_one lx) ?_
      have VK2 := hid (setRow_heap _ gx _ (arr lx) _ _ VK.out)
      have BY := hid (below_row hH (g := gx) LX.out (arr lx))
      refine hK.out _ _ BY.out (fun hH => ?_)
      clear hK K BY VK
      generalize x10.setRow gx (arr lx) = x11 at *
      try simp only [Act.put]
      refine wpAnyH_take (i := 12) (v := .bool tb) (by simp only [List.getElem?_toArray, List.getElem?_cons_succ, List.getElem?_cons_zero]; rfl) (by kernel_rfl) (by kernel_rfl) (by kernel_rfl) (by intro _ _ _ h; exact h) (Or.inl ⟨by rfl, fun w hS => by go_simp⟩) hH ?_
      simp only [Act.put, List.setIfInBounds_toArray, List.set_cons_zero, List.set_cons_succ]
      refine wpAnyH_done (by kernel_rfl) ?_ _
      have NKX := hid (show gx < g2 ∨ g2 + 1 ≤ gx from .inr (Nat.le_trans GB2.out LX.out))
      have hB := hH
      clear hH d0 d1 d2 d3 f0 f1
      replace VL := hid (var_below hB VL.out)
      replace VR := hid (var_below hB VR.out)
      replace HL := hid (HL.out.below hB)
      replace BB := hid (BB.out.trans (hB.mono BB.out.size))
      clear hB
      by_cases hh : Has ks k
      · obtain ⟨j, hj, hx⟩ := hh
        have HS : tb = true := htb.out.trans ((R1.out.has k).2 ⟨j, hj, hj, hx⟩)
        subst HS
        have EA : arr lx = arr (ks[j]).2 := by
          have e1 := AT.out
          have e2 : D.atKey (.int .i64 k) zK = .held (.agg (arr (ks[j]).2)) := by rw [← hx]; exact R1.out.bytes j hj hj
          rw [e2] at e1
          simp only [DataW.held.injEq, Value.agg.injEq] at e1
          exact e1.symm
        obtain ⟨rfl, rfl⟩ := sl_ok HF.out hf.out.symm hfl.out.symm j hj hx
        have EL := hid (arr_injs EA)
        have ES := hid (show headL k.toNat s.toNat n.toNat ++ slB lx (nonceL s.toNat n.toNat) (headL k.toNat s.toNat n.toNat) l = sB (ks[j]).2 k s n l by rw [slB, if_pos (sl_in L16.out (nonceL_len _ _) (headL_len _ _ _) (Nat.le_trans L300.out (by omega))), EL.out]; rfl)
        have YX := hid (show Byt lx by rw [EL.out]; exact YK.out _ (List.getElem_mem hj))
        clear hx EA
        obtain ⟨kn, ek⟩ : ∃ x : Nat, k = x := ⟨k.toNat, by have := HOK.out.1; omega⟩
        obtain ⟨sn, es⟩ : ∃ x : Nat, s = x := ⟨s.toNat, by have := HOK.out.2.1; omega⟩
        obtain ⟨nn, en⟩ : ∃ x : Nat, n = x := ⟨n.toNat, by have := HOK.out.2.2; omega⟩
        subst ek es en
        obtain ⟨⟨d0, d1, d2, d3⟩, -⟩ := var4_facts VL.out
        go_wp2_with fail
        clear d0 d1 d2 d3
        refine (ihol _ _ _ _ _ _ _).mono ?_
        rintro e x12 ⟨rfl, hB⟩
        replace VL := hid (var_below hB VL.out)
        replace VR := hid (var_below hB VR.out)
        replace HL := hid (HL.out.below hB)
        replace BB := hid (BB.out.trans (hB.mono BB.out.size))
        replace VK2 := hid (var_below hB VK2.out)
        clear hB
        have VH := hid (heap_alloc_new x12 (.cells #[.int .i64 (sn : Int), .int .i64 (nn : Int), .int .i64 (kn : Int)] 71))
        have hB := below_alloc1 x12 (.cells #[.int .i64 (sn : Int), .int .i64 (nn : Int), .int .i64 (kn : Int)] 71)
        have LW := hid (show g2 < x12.heap.size from var_lt VR.out)
        replace VL := hid (var_below hB VL.out)
        replace VR := hid (var_below hB VR.out)
        replace HL := hid (HL.out.below hB)
        replace BB := hid (BB.out.trans (hB.mono BB.out.size))
        replace VK2 := hid (var_below hB VK2.out)
        clear hB
        go_wp2_with fail
        generalize x12.alloc (.cells #[.int .i64 (sn : Int), .int .i64 (nn : Int), .int .i64 (kn : Int)] 71) = w6 at *
        obtain ⟨gh, hgh⟩ : ∃ g, g = x12.heap.size := ⟨_, rfl⟩
        rw [← hgh] at VH LW ⊢
        clear hgh
        obtain ⟨⟨d0, d1, d2, d3⟩, -⟩ := var4_facts VL.out
        obtain ⟨⟨e0, e1, e2⟩, -⟩ := var3_facts VH.out
        have NH := hid (show gh < g2 ∨ g2 + 1 ≤ gh from .inr LW.out)
        have NL := hid (show g1 < g2 ∨ g2 + 1 ≤ g1 from .inl L12.out)
        have NK := hid (show gx < g2 ∨ g2 + 1 ≤ gx from NKX.out)
        have L2 := hid (show g2 < w6.heap.size from var_lt VR.out)
        clear d0 d1 d2
        refine wp_region_held_drew (S := fun w' => Ins g2 (g2 + 1) w6 w') (by kernel_rfl) (ins_drew (Ins.refl _ _ _)) (fun hH => ?_)
        replace VR := hid (show w6.drew.heap[g2]? = _ from VR.out)
        replace HL := hid (show Rd w6.drew _ _ from HL.out)
        generalize w6.drew = x at hH VR HL ⊢
        refine wpAnyH_take (i := 0) (v := .agg #[.int .i64 (sn : Int), .int .i64 (nn : Int), .int .i64 (kn : Int)]) (by simp only [List.getElem?_toArray, List.getElem?_cons_zero]; rfl) (by kernel_rfl) (by kernel_rfl) (by kernel_rfl) (by intro _ _ _ h; exact h) (Or.inl ⟨by rfl, fun w hS => by (have y0 := cell_ins hS e0 NH.out; have y1 := cell_ins hS e1 NH.out; have y2 := cell_ins hS e2 NH.out; go_simp)⟩) hH ?_
        simp only [Act.put, List.setIfInBounds_toArray, List.set_cons_zero, List.set_cons_succ]
        refine wpAnyH_take (i := 2) (v := .agg #[.int .i64 (sn : Int), .int .i64 (nn : Int), .int .i64 (kn : Int)]) (by simp only [List.getElem?_toArray, List.getElem?_cons_succ, List.getElem?_cons_zero]; rfl) (by kernel_rfl) (by kernel_rfl) (by kernel_rfl) (by intro _ _ _ h; exact h) (Or.inl ⟨by rfl, fun w hS => by (have y0 := cell_ins hS e0 NH.out; have y1 := cell_ins hS e1 NH.out; have y2 := cell_ins hS e2 NH.out; go_simp)⟩) hH ?_
        simp only [Act.put, List.setIfInBounds_toArray, List.set_cons_zero, List.set_cons_succ]
        refine wpAnyH_take (i := 3) (v := .agg (arr lx)) (by simp only [List.getElem?_toArray, List.getElem?_cons_succ, List.getElem?_cons_zero]; rfl) (by kernel_rfl) (by kernel_rfl) (by kernel_rfl) (by intro _ _ _ h; exact h) (yieldsIf_load_mid (by rfl) _ _ rfl gx 0 rfl (lx.map bv) _ (fun w hS => show w.rangeAt gx 0 (lx.map bv) from row_rng (hS.var VK2.out NK.out)) Tryz.underlying63 rfl (by rw [List.length_map, ← arr_size]; exact Zs.out)) hH ?_
        simp only [Act.put, List.setIfInBounds_toArray, List.set_cons_zero, List.set_cons_succ]
        refine wpAnyH_take (i := 4) (v := .pointer (some ⟨g1, 3, none⟩)) (by simp only [List.getElem?_toArray, List.getElem?_cons_succ, List.getElem?_cons_zero]; rfl) (by kernel_rfl) (by kernel_rfl) (by kernel_rfl) (by intro _ _ _ h; exact h) (Or.inl ⟨by rfl, fun w hS => by go_simp⟩) hH ?_
        simp only [Act.put, List.setIfInBounds_toArray, List.set_cons_zero, List.set_cons_succ]
        refine wpAnyH_take (i := 5) (v := .slice al l.length capl) (by simp only [List.getElem?_toArray, List.getElem?_cons_succ, List.getElem?_cons_zero]; rfl) (by kernel_rfl) (by kernel_rfl) (by kernel_rfl) (by intro _ _ _ h; exact h) (Or.inl ⟨by rfl, fun w hS => by (have y0 := cell_ins hS d3 NL.out; go_simp)⟩) hH ?_
        simp only [Act.put, List.setIfInBounds_toArray, List.set_cons_zero, List.set_cons_succ]
        refine wpAnyH_ready (rs := [1]) (by kernel_rfl) (by simp) ?_
        refine AllReadyH.cons (by simp only [List.getElem?_toArray, List.getElem?_cons_succ, List.getElem?_cons_zero]; rfl) (fun K hK => ?_) AllReadyH.nil
        go_simp
        refine (ipacked kn sn nn _ (by have := HOK.out.1; omega) (by have := HOK.out.2.1; omega) (by have := HOK.out.2.2; omega)).mono ?_
        rintro e x1 ⟨v1, rfl, hO, hM⟩
        obtain ⟨p1, k1, rfl, -, -, -⟩ := hO.rd.parts
        have SB := hid hH.size
        refine hK.out _ _ (hH.trans (Ins.of_below hM)) (fun hH => ?_)
        clear hK K
        replace VR := hid (var_below hM VR.out)
        replace HL := hid (HL.out.below hM)
        have OC := hid (hO.mono (base' := w6.heap.size) SB.out)
        clear hM SB
        refine wpAnyH_ready (rs := [6]) (by kernel_rfl) (by simp) ?_
        refine AllReadyH.cons (by simp only [List.getElem?_toArray, List.getElem?_cons_succ, List.getElem?_cons_zero]; rfl) (fun K hK => ?_) AllReadyH.nil
        go_simp
        refine (ihseal lx kn sn nn _ l _ HL.out YX.out YL.out L16.out (by have := HOK.out.1; omega) (by have := HOK.out.2.1; omega) (by have := HOK.out.2.2; omega)).mono ?_
        rintro e x6 ⟨v6, rfl, hO, hM⟩
        obtain ⟨p6, k6, rfl, -, -, -⟩ := hO.rd.parts
        have SB := hid hH.size
        refine hK.out _ _ (hH.trans (Ins.of_below hM)) (fun hH => ?_)
        clear hK K
        replace VR := hid (var_below hM VR.out)
        replace HL := hid (HL.out.below hM)
        replace OC := hid (OC.out.below hM)
        have RS := hid (hO.rd)
        obtain ⟨c6, hc6⟩ : ∃ x, x = slC lx (nonceL sn nn) (headL kn sn nn) l := ⟨_, rfl⟩
        rw [← hc6]
        clear hc6 hO
        clear hM SB
        refine wpAnyH_take (i := 7) (v := .slice p6 (slB lx (nonceL sn nn) (headL kn sn nn) l).length k6) (by simp only [List.getElem?_toArray, List.getElem?_cons_succ, List.getElem?_cons_zero]; rfl) (by kernel_rfl) (by kernel_rfl) (by kernel_rfl) (by intro _ _ _ h; exact h) (Or.inl ⟨by rfl, fun w hS => by (have hf1 := fld1; go_simp)⟩) hH ?_
        simp only [Act.put, List.setIfInBounds_toArray, List.set_cons_zero, List.set_cons_succ]
        refine wpAnyH_ready (rs := [8]) (by kernel_rfl) (by simp) ?_
        refine AllReadyH.cons (by simp only [List.getElem?_toArray, List.getElem?_cons_succ, List.getElem?_cons_zero]; rfl) (fun K hK => ?_) AllReadyH.nil
        refine step_app (by rfl) _ _ (by rfl) _ _ (headL kn sn nn) (slB lx (nonceL sn nn) (headL kn sn nn) l) w6.heap.size (by rfl) (by rfl) OC.out RS.out (by rw [headL_len]; have := slB_len lx (nonceL sn nn) (headL kn sn nn) l; omega) hH.size ?_
        intro v8 x8 hO hG
        have V2 := hid (var_grown hG VR.out (fun e => absurd (OC.out.row (Nat.le_refl _) _ e.symm) (Nat.not_le_of_lt L2.out)))
        have O8 := hid hO
        have S8 := hid (Nat.le_trans hH.size hG.size)
        refine hK.out _ _ (ins_grow hH hG (OC.out.row (Nat.le_refl _))) (fun hH => ?_)
        clear hK K hG hO VR OC RS
        obtain ⟨p8, k8, e8, -, -, -⟩ := O8.out.rd.parts
        obtain ⟨m8, hm8⟩ : ∃ m, m = (headL kn sn nn ++ slB lx (nonceL sn nn) (headL kn sn nn) l).length := ⟨_, rfl⟩
        rw [← hm8] at e8
        subst e8
        replace hm8 := hid hm8
        refine wpAnyH_take (i := 9) (v := .agg #[.int .i64 0, .slice p8 m8 k8]) (by simp only [List.getElem?_toArray, List.getElem?_cons_succ, List.getElem?_cons_zero]; rfl) (by kernel_rfl) (by kernel_rfl) (by kernel_rfl) (by intro _ _ _ h; exact h) (Or.inl ⟨by rfl, fun w hS => by go_simp⟩) hH ?_
        simp only [Act.put, List.setIfInBounds_toArray, List.set_cons_zero, List.set_cons_succ]
        refine wpAnyH_ready (rs := [10]) (by kernel_rfl) (by simp) ?_
        refine AllReadyH.cons (by simp only [List.getElem?_toArray, List.getElem?_cons_succ, List.getElem?_cons_zero]; rfl) (fun K hK => ?_) AllReadyH.nil
        obtain ⟨q0, q1, z0, z1⟩ := var2_facts V2.out
        go_simp
        have V3 := hid (var2_set (x' := .int .i64 0) (y' := .slice p8 m8 k8) V2.out)
        have O9 := hid (O8.out.set2 (g := g2) (x := .int .i64 0) (y := .slice p8 m8 k8) L2.out)
        refine hK.out _ _ (ins_setAt (ins_setAt hH (p := ⟨g2, 0, none⟩) (Nat.le_refl _) (Nat.lt_succ_self _) _) (p := ⟨g2, 1, none⟩) (Nat.le_refl _) (Nat.lt_succ_self _) _) (fun hH => ?_)
        clear hK K q0 q1 z0 z1 V2 O8
        refine wpAnyH_done (by kernel_rfl) ?_ _
        have BN := hid (BB.out.trans (hH.below LG.out BB.out.size))
        clear hH d3 e0 e1 e2
        go_wp2
        exact bodyPost_ret (v := .agg #[.int .i64 0, .slice p8 m8 k8]) (results_cell_row rfl _ _ g2 31 _ _ _ rfl V3.out Tryz.underlying31 rfl (by kernel_rfl)) rfl ⟨_, rfl, ES.out ▸ (OB.of (O9.out.mono BB.out.size).x), BN.out⟩
      · have HS : tb = false := htb.out.trans (by
          cases q : Maps.has D (.int .i64 k)
          · rfl
          · obtain ⟨j, hj, -, hx⟩ := (R1.out.has k).1 q
            exact absurd ⟨j, hj, hx⟩ hh)
        subst HS
        obtain ⟨rfl, rfl⟩ := sl_none HF.out hf.out.symm hfl.out.symm hh
        replace hh := hid hh
        clear VK2
        obtain ⟨r0, r1, y0, y1⟩ := var2_facts VR.out
        have hset := hid (var2_set (x' := .int .i64 4) (y' := .slice none 0 0) VR.out)
        have hbel := hid (below_set2 (x := .int .i64 4) (y := .slice none 0 0) (g := g2) BB.out LG.out)
        go_wp2
        try simp only [Exit.inBlock, Exit.then]
        exact bodyPost_ret (v := .agg #[.int .i64 4, .slice none 0 0]) (results_cell_row rfl _ _ g2 31 _ _ _ rfl hset.out Tryz.underlying31 rfl (by kernel_rfl)) rfl ⟨_, rfl, OB.nil _ _ _, hbel.out⟩
    · obtain ⟨hcc, rfl⟩ := sl_let HF.out hf.out.symm (fun q => h1 (hfl.trans q))
      rw [← hfl] at hcc
      subst hcc
      replace hfl := hid hfl
      have ne : (c != 0) = true := by rw [bne_iff_ne]; exact h1
      replace h1 := hid h1
      obtain ⟨r0, r1, y0, y1⟩ := var2_facts VR.out
      have hset := hid (var2_set (x' := .int .i64 c) (y' := .slice none 0 0) VR.out)
      have hbel := hid (below_set2 (x := .int .i64 c) (y := .slice none 0 0) (g := g2) BB.out LG.out)
      go_wp2
      try simp only [Exit.inBlock, Exit.then]
      exact bodyPost_ret (v := .agg #[.int .i64 c, .slice none 0 0]) (results_cell_row rfl _ _ g2 31 _ _ _ rfl hset.out Tryz.underlying31 rfl (by kernel_rfl)) rfl ⟨_, rfl, OB.nil _ _ _, hbel.out⟩
  · obtain ⟨hcc, rfl⟩ := sl_bad HF.out (fun q => h0 (hf.trans q))
    rw [← hf] at hcc
    subst hcc
    replace hf := hid hf
    have ne : (c != 0) = true := by rw [bne_iff_ne]; exact h0
    replace h0 := hid h0
    clear hr
    obtain ⟨r0, r1, y0, y1⟩ := var2_facts VR.out
    have hset := hid (var2_set (x' := .int .i64 c) (y' := .slice none 0 0) VR.out)
    have hbel := hid (below_set2 (x := .int .i64 c) (y := .slice none 0 0) (g := g2) BB.out LG.out)
    go_wp2
    try simp only [Exit.inBlock, Exit.then]
    exact bodyPost_ret (v := .agg #[.int .i64 c, .slice none 0 0]) (results_cell_row rfl _ _ g2 31 _ _ _ rfl hset.out Tryz.underlying31 rfl (by kernel_rfl)) rfl ⟨_, rfl, OB.nil _ _ _, hbel.out⟩
end Go.Proofs.YtckgjghpfjinfakGreat.W
