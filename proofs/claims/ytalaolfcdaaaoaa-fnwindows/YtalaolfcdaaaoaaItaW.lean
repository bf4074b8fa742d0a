/-
  What the program's TakeAll answers.
-/
import Derived.Test.YtalaolfcdaaaoaaTaF
import Derived.Test.YtalaolfcdaaaoaaTakW
import Derived.Test.YtalaolfcdaaaoaaAppZ
namespace Go.Proofs.Ytalaolfcdaaaoaa.W
open Go.ChangeShapes Go.WideShapes Go.ChangeAt Go.RowKit Go.Maps
open Go.Proofs.Ytalaolfcdaaaoaa.M

theorem TSet.keptT {w w' : World} {b n : Nat} {zs : List Int} {row : Option Nat} (h : TSet w b n zs) (hG : w.grownBy w' row) (hne : some b ≠ row) : TSet w' b n zs := by
  obtain ⟨D, ⟨es, clock, hb, F, hs, hD⟩, hm⟩ := h
  exact ⟨D, ⟨es, clock, (hG.block b (Array.getElem?_eq_some_iff.1 hb).1 hne).trans hb, F, hs, hD⟩, hm⟩
set_option maxHeartbeats 4000000 in
set_option maxRecDepth 100000 in
theorem ita (top : Int) (v vz : Value) (l zs : List Int) (c : Int) (lr : List Int) (w : World) (h : RdZ w v l) (hz : RdZ w vz zs) (hy : WfZ l) (hl : l.length ≤ 1048576) (hF : TaIs top l zs c lr) :
    Calls Try.prog 43 #[.agg #[.int .i64 top, v], vz] w fun e w' => ∃ u, e = .returned (.agg #[.int .i64 c, u]) ∧ OZ w' w.heap.size w'.heap.size u lr ∧ Below w.heap.size w w' := by
  have H := hid h
  have HZ := hid hz
  have HY := hid hy
  have HF := hid hF
  obtain ⟨a, ca, rfl, -, -, -⟩ := h.parts
  obtain ⟨az, cz, rfl, q1, q2, -⟩ := hz.parts
  have hmx : zs.length ≤ maxLen := Nat.le_trans q1 q2
  unfold maxLen at hmx
  clear h hF hz hy q1 q2
  go_enter Try.func43, Try.ntmps43
  go_wp2_with fail
  have VR := hid (heap_alloc2_new w (.cells #[.int .i64 top, .slice a l.length ca] 69) (.cells #[.int .i64 0, .slice none 0 0] 34))
  have BB := hid (below_alloc2 w (.cells #[.int .i64 top, .slice a l.length ca] 69) (.cells #[.int .i64 0, .slice none 0 0] 34))
  replace H := hid (H.out.below BB.out)
  replace HZ := hid (HZ.out.below BB.out)
  have S2 := hid (show w.heap.size + 1 < ((w.alloc (.cells #[.int .i64 top, .slice a l.length ca] 69)).alloc (.cells #[.int .i64 0, .slice none 0 0] 34)).heap.size by simp)
  generalize (w.alloc (.cells #[.int .i64 top, .slice a l.length ca] 69)).alloc (.cells #[.int .i64 0, .slice none 0 0] 34) = w0 at *
  obtain ⟨gr, hgr⟩ : ∃ g, g = w.heap.size + 1 := ⟨_, rfl⟩
  rw [← hgr] at VR S2 ⊢
  have GR := hid (show w.heap.size ≤ gr by rw [hgr]; exact Nat.le_succ _)
  clear hgr
  have NZ := hid (show ∀ b o, 0 < zs.length → az = some ⟨b, o, none⟩ → b < w0.heap.size from fun b o h0 e => by
    obtain ⟨a', c', e', -, -, hcs⟩ := HZ.out.parts
    obtain ⟨b', o', e2, hc⟩ := hcs 0 h0
    cases e'
    rw [e2] at e
    cases e
    exact World.block_lt_of_cell? w0 _ hc)
  refine (iso top _ l _ H.out HY.out hl).mono ?_
  rintro e w1 ⟨r, rfl, hP, hB⟩
  have HP := hid hP
  replace VR := hid (var_below hB VR.out)
  replace HZ := hid (HZ.out.below hB)
  replace BB := hid (BB.out.trans (hB.mono BB.out.size))
  clear hB hP
  rcases HF.out with ⟨h1, rfl, rfl⟩ | ⟨h1, h2, rfl, rfl⟩ | ⟨h1, h2, rfl, rfl⟩
  · obtain ⟨cc, hcc⟩ : ∃ c, c = wF top l := ⟨_, rfl⟩
    rw [← hcc] at h1 ⊢
    have ne : (cc != 0) = true := by rw [bne_iff_ne]; exact h1
    have HCC := hid hcc
    clear hcc h1 HF HP
    obtain ⟨z0, z1, z2, z3⟩ := var2_facts VR.out
    have HS := hid (var2_set (x' := .int .i64 cc) (y' := .slice none 0 0) VR.out)
    have HX := hid (below_set2 (x := .int .i64 cc) (y := .slice none 0 0) BB.out GR.out)
    go_wp2
    try simp only [Exit.inBlock, Exit.then]
    exact bodyPost_ret (v := .agg #[.int .i64 cc, .slice none 0 0]) (results_cell_row rfl _ _ gr 34 _ _ _ rfl HS.out Try.underlying34 rfl (by kernel_rfl)) rfl ⟨_, by rw [HCC.out], OZ.nil _ _ _, HX.out⟩
  · rw [h1]
    clear h1 HF HP
    go_wp2_with fail
    have VS := heap_alloc_new w1 (.cells #[.int .i64 (zs.length : Int), .int .i64 0, .int .i64 200] 100)
    have hA := below_alloc1 w1 (.cells #[.int .i64 (zs.length : Int), .int .i64 0, .int .i64 200] 100)
    generalize w1.alloc (.cells #[.int .i64 (zs.length : Int), .int .i64 0, .int .i64 200] 100) = w2 at *
    replace VR := hid (var_below hA VR.out)
    replace BB := hid (BB.out.trans (hA.mono BB.out.size))
    clear hA
    refine (within1 _ _ _ _ _ VS).mono ?_
    rintro e w3 ⟨rfl, hB⟩
    replace VR := hid (var_below hB VR.out)
    replace BB := hid (BB.out.trans (hB.mono BB.out.size))
    clear hB VS
    rw [show inB (zs.length : Int) 0 200 = false from decide_eq_false (by omega)]
    obtain ⟨z0, z1, z2, z3⟩ := var2_facts VR.out
    have HS := hid (var2_set (x' := .int .i64 2) (y' := .slice none 0 0) VR.out)
    have HX := hid (below_set2 (x := .int .i64 2) (y := .slice none 0 0) BB.out GR.out)
    go_wp2
    try simp only [Exit.inBlock, Exit.then]
    exact bodyPost_ret (v := .agg #[.int .i64 2, .slice none 0 0]) (results_cell_row rfl _ _ gr 34 _ _ _ rfl HS.out Try.underlying34 rfl (by kernel_rfl)) rfl ⟨_, rfl, OZ.nil _ _ _, HX.out⟩
  · obtain ⟨g, b, rfl, hg, hb, hW⟩ := HP.out h1
    rw [h1]
    have WK := hid (wF_zero h1)
    have HW := hid hW
    have HZ2 := hid h2
    have N1 := hid (show gr < g from Nat.lt_of_lt_of_le S2.out hg)
    have N2 := hid (show gr < b from Nat.lt_of_lt_of_le S2.out hb)
    clear h1 HF HP hW
    go_wp2_with fail
    have VS := heap_alloc_new w1 (.cells #[.int .i64 (zs.length : Int), .int .i64 0, .int .i64 200] 100)
    have hA := below_alloc1 w1 (.cells #[.int .i64 (zs.length : Int), .int .i64 0, .int .i64 200] 100)
    generalize w1.alloc (.cells #[.int .i64 (zs.length : Int), .int .i64 0, .int .i64 200] 100) = w2 at *
    replace VR := hid (var_below hA VR.out)
    replace BB := hid (BB.out.trans (hA.mono BB.out.size))
    replace HW := hid (HW.out.below hA)
    replace HZ := hid (HZ.out.below hA)
    clear hA
    refine (within1 _ _ _ _ _ VS).mono ?_
    rintro e w3 ⟨rfl, hB⟩
    replace VR := hid (var_below hB VR.out)
    replace BB := hid (BB.out.trans (hB.mono BB.out.size))
    replace HW := hid (HW.out.below hB)
    replace HZ := hid (HZ.out.below hB)
    clear hB VS
    rw [show inB (zs.length : Int) 0 200 = true from decide_eq_true (by omega)]
    go_wp2_with fail
    have KK := hid (taSt_ok WK.out zs)
    have LG := hid (var_lt HW.out.var)
    have LB := hid HW.out.set.lt
    have SW := hid BB.out.size
    have W03 := hid (show w0.heap.size ≤ w3.heap.size from Nat.le_trans hg (Nat.le_of_lt LG.out))
    have HG := hid hg
    have HB2 := hid hb
    clear hg hb h2
    go_loopw [7, 8, 9, 28] (fun s7 s8 s9 s28 wr => ∃ (k : Nat) (st : Int) (sl : List Int) (u u8 u9 : Value) (al : List Int) (nn : Nat), k ≤ zs.length ∧ s7 = u ∧ s8 = u8 ∧ s9 = u9 ∧ s28 = .int .i64 k ∧ Hid ((st, sl) = taSt top l zs k ∧ al = taL top l zs k) ∧ Hid (Win1 wr g b nn st sl) ∧ Hid (nn ≤ l.length + k) ∧ Hid (OwZ wr w3.heap.size u al) ∧ Hid (Below w0.heap.size w3 wr) ∧ Hid (w3.heap.size ≤ wr.heap.size)) (fun _ _ _ s28 _ => zs.length - (intOf s28).toNat)
    case atStart => exact ⟨0, top, l, .slice none 0 0, _, _, [], l.length, Nat.zero_le _, rfl, rfl, rfl, rfl, hid ⟨rfl, rfl⟩, HW, hid (Nat.le_refl _), hid (OwZ.nil _ _), hid (Below.refl _ _), hid (Nat.le_refl _)⟩
    case round =>
      clear HW
      obtain ⟨k, st, sl, u, u8', u9', al, nn, hk, rfl, rfl, rfl, rfl, EQ, HW, NN, OU, BL, SG⟩ := hrel
      have WS := hid (show WOk st sl by have := KK.out k; rw [← EQ.out.1] at this; exact this)
      have AL := hid (show al.length ≤ k by rw [EQ.out.2]; exact taL_len _ _ _ _)
      obtain ⟨pu, cu, rfl, -, -, -⟩ := OU.out.rd.parts
      by_cases hlt : k < zs.length
      · obtain ⟨a', c', e', -, -, hcs⟩ := HZ.out.parts
        cases e'
        obtain ⟨b', o, rfl, ck⟩ := hcs k hlt
        replace ck := cell_low BL.out ck (NZ.out b' o (by omega) rfl)
        clear hcs
        by_cases hc : tkC st sl zs[k] = 0
        · have Y := hid (taSt_yes (top := top) (l := l) hlt (by rw [← EQ.out.1]; exact hc))
          have HC := hid hc
          clear hc
          go_wp2_with fail
          clear ck
          refine (itk_ok2 g b nn st zs[k] sl _ HW.out WS.out HC.out (by have := NN.out; have := HZ2.out; omega)).mono ?_
          rintro e w4 ⟨rfl, hW4, hT⟩
          have W4 := hid hW4
          have OU4 := hT.own LG.out LB.out OU.out
          have B4 := BL.out.trans (hT.below HG.out HB2.out (Nat.le_trans W03.out SG.out))
          have hA := below_alloc1 w4 (.cells #[.int .i64 (k : Int)] 2)
          have W5 := hid (hW4.below hA)
          have OU5 := hid (OU4.below hA)
          have S4 := Nat.le_trans SG.out hT.size
          have B5 := hid (B4.trans (hA.mono (Nat.le_trans W03.out S4)))
          have S5 := hid (Nat.le_trans S4 hA.size)
          have RN := hid (rdZ_one w4 (k : Int) 2)
          have LA := hid (show al.length + [(k : Int)].length ≤ 4194304 by have := AL.out; have := HZ2.out; simp; omega)
          obtain ⟨al2, hal⟩ : ∃ x, x = al ++ [(k : Int)] := ⟨_, rfl⟩
          have HAL := hid hal
          clear hW4 hT OU4 B4 hA S4 hal
          go_wp2_with (at_builtin; refine list_appZ rfl _ _ rfl _ _ al [(k : Int)] w3.heap.size rfl rfl OU5.out RN.out LA.out S5.out ?_; intro v6 w6 hO hG; rw [← HAL.out] at hO; obtain ⟨pq, cq, rfl, -, -, -⟩ := hO.rd.parts)
          have hG2 : (w4.alloc (.cells #[.int .i64 (k : Int)] 2)).grownBy w6 (Value.slice pu al.length cu).ownBlock := hG
          have W6 : Win1 w6 g b (nn + 1) (tkT st zs[k]) (insZ (tkT st zs[k] - 16) zs[k] sl) := ⟨var_grown hG2 W5.out.var (OU5.out.ne LG.out), W5.out.set.keptT hG2 (OU5.out.ne LB.out)⟩
          have B6 := B5.out.trans (below_of_grown hG2 (Nat.le_trans W03.out S5.out) (OU5.out.row W03.out))
          exact ⟨⟨k + 1, tkT st zs[k], insZ (tkT st zs[k] - 16) zs[k] sl, _, _, _, al2, nn + 1, hlt, rfl, rfl, rfl, by go_num, hid ⟨by rw [Y.out.1, ← EQ.out.1], by rw [Y.out.2, ← EQ.out.2, HAL.out]⟩, hid W6, hid (Nat.succ_le_succ NN.out), hid hO, hid B6, hid (Nat.le_trans S5.out hG2.size)⟩, by simp [intOf]; omega⟩
        · have Y := hid (taSt_no (top := top) (l := l) hlt (by rw [← EQ.out.1]; exact hc))
          have HC := hid hc
          clear hc
          go_wp2_with fail
          clear ck
          refine (itk_no g b nn st zs[k] sl _ HW.out WS.out HC.out).mono ?_
          rintro e w4 ⟨rfl, hB⟩
          have W4 := hid (HW.out.below hB)
          have OU4 := hid (OU.out.below hB)
          have B4 := hid (BL.out.trans (hB.mono (Nat.le_trans W03.out SG.out)))
          have S4 := hid (Nat.le_trans SG.out hB.size)
          obtain ⟨cc, hcc⟩ : ∃ c, c = tkC st sl zs[k] := ⟨_, rfl⟩
          rw [← hcc] at HC ⊢
          have ne : (cc == 0) = false := by simpa using HC.out
          clear hcc hB
          go_wp2
          go_roundw
          case rel => exact ⟨k + 1, st, sl, _, _, _, al, nn, hlt, rfl, rfl, rfl, by go_num, hid ⟨by rw [Y.out.1]; exact EQ.out.1, by rw [Y.out.2]; exact EQ.out.2⟩, W4, hid (Nat.le_succ_of_le NN.out), OU4, B4, S4⟩
          case measure => simp [intOf]; omega
      · have hke : k = zs.length := by omega
        subst hke
        have VR2 := hid (var_keep BL.out VR.out S2.out)
        have BE := hid (BB.out.trans (BL.out.mono (Nat.le_trans GR.out (Nat.le_of_lt S2.out))))
        have hnl : ¬ ((zs.length : Int) < (zs.length : Int)) := by omega
        obtain ⟨z0, z1, z2, z3⟩ := var2_facts VR2.out
        have HS := hid (var2_set (x' := .int .i64 0) (y' := .slice pu al.length cu) VR2.out)
        have HX := hid (below_set2 (x := .int .i64 0) (y := .slice pu al.length cu) BE.out GR.out)
        have LR := hid (show gr < w3.heap.size from Nat.lt_of_lt_of_le S2.out W03.out)
        have HQ := hid (OZ.of ((show OwZ _ _ _ _ from ownsRow_setCell_below (ownsRow_setCell_below OU.out (a := ⟨gr, 0, none⟩) LR.out (.int .i64 0)) (a := ⟨gr, 1, none⟩) LR.out (.slice pu al.length cu)).mono SW.out))
        go_wp2
        try simp only [Exit.inBlock, Exit.then]
        exact bodyPost_ret (v := .agg #[.int .i64 0, .slice pu al.length cu]) (results_cell_row rfl _ _ gr 34 _ _ _ rfl HS.out Try.underlying34 rfl (by kernel_rfl)) rfl ⟨_, rfl, by rw [← EQ.out.2]; exact HQ.out, HX.out⟩
end Go.Proofs.Ytalaolfcdaaaoaa.W
