/-
  What the model's TakeAll answers.
-/
import Derived.Test.YtalaolfcdaaaoaaTaF
import Derived.Test.YtalaolfcdaaaoaaStcW
namespace Go.Proofs.Ytalaolfcdaaaoaa.W
open Go.ChangeShapes Go.WideShapes Go.ChangeAt Go.RowKit
open Go.Proofs.Ytalaolfcdaaaoaa.M

theorem rdZ_apart {w w' : World} {v : Value} {l : List Int} (h : RdZ w v l) (hk : ∀ b o cap, 0 < l.length → v = .slice (some ⟨b, o, none⟩) l.length cap → w'.heap[b]? = w.heap[b]?) : RdZ w' v l := by
  obtain ⟨a, cap, rfl, hn, hm, hcs⟩ := h
  refine ⟨a, cap, rfl, hn, hm, fun i hi => ?_⟩
  obtain ⟨b, o, rfl, hc⟩ := hcs i hi
  refine ⟨b, o, rfl, ?_⟩
  have e := hk b o cap (by omega) rfl
  rw [← hc]
  simp only [World.cell?, e]
set_option maxHeartbeats 4000000 in
set_option maxRecDepth 100000 in
theorem sta (top : Int) (v vz : Value) (l zs : List Int) (c : Int) (lr : List Int) (w : World) (h : RdZ w v l) (hz : RdZ w vz zs) (_hl : l.length ≤ 1048576) (hF : TaIs top l zs c lr) :
    Calls Try.prog 46 #[.agg #[.int .i64 top, v], vz] w fun e w' => ∃ u, e = .returned (.agg #[.int .i64 c, u]) ∧ RdZ w' u lr ∧ Below w.heap.size w w' := by
  have H := hid h
  have HZ := hid hz
  have HF := hid hF
  obtain ⟨a, ca, rfl, -, -, -⟩ := h.parts
  obtain ⟨az, cz, rfl, q1, q2, -⟩ := hz.parts
  have hmx : zs.length ≤ maxLen := Nat.le_trans q1 q2
  unfold maxLen at hmx
  clear h hF hz q1 q2
  go_enter Try.func46, Try.ntmps46
  go_wp2_with fail
  have VA := hid (heap_alloc2_old w (.cells #[.int .i64 top, .slice a l.length ca] 69) (.cells #[.int .i64 0, .slice none 0 0] 34))
  have VR := hid (heap_alloc2_new w (.cells #[.int .i64 top, .slice a l.length ca] 69) (.cells #[.int .i64 0, .slice none 0 0] 34))
  have BB := hid (below_alloc2 w (.cells #[.int .i64 top, .slice a l.length ca] 69) (.cells #[.int .i64 0, .slice none 0 0] 34))
  replace H := hid (H.out.below BB.out)
  replace HZ := hid (HZ.out.below BB.out)
  generalize (w.alloc (.cells #[.int .i64 top, .slice a l.length ca] 69)).alloc (.cells #[.int .i64 0, .slice none 0 0] 34) = w0 at *
  obtain ⟨gr, hgr⟩ : ∃ g, g = w.heap.size + 1 := ⟨_, rfl⟩
  rw [← hgr] at VR ⊢
  have GR := hid (show w.heap.size ≤ gr by rw [hgr]; exact Nat.le_succ _)
  clear hgr
  obtain ⟨ga, hga⟩ : ∃ g, g = w.heap.size := ⟨_, rfl⟩
  rw [← hga] at VA ⊢
  clear hga
  refine (swf top _ l _ H.out).mono ?_
  rintro e w1 ⟨rfl, hB⟩
  replace VA := hid (var_below hB VA.out)
  replace VR := hid (var_below hB VR.out)
  replace H := hid (H.out.below hB)
  replace HZ := hid (HZ.out.below hB)
  replace BB := hid (BB.out.trans (hB.mono BB.out.size))
  clear hB
  rcases HF.out with ⟨h1, rfl, rfl⟩ | ⟨h1, h2, rfl, rfl⟩ | ⟨h1, h2, rfl, rfl⟩
  · obtain ⟨cc, hcc⟩ : ∃ c, c = wF top l := ⟨_, rfl⟩
    rw [← hcc] at h1 ⊢
    have ne : (cc != 0) = true := by rw [bne_iff_ne]; exact h1
    have HCC := hid hcc
    clear hcc h1 HF
    obtain ⟨z0, z1, z2, z3⟩ := var2_facts VR.out
    have HS := hid (var2_set (x' := .int .i64 cc) (y' := .slice none 0 0) VR.out)
    have HX := hid (below_set2 (x := .int .i64 cc) (y := .slice none 0 0) BB.out GR.out)
    go_wp2
    try simp only [Exit.inBlock, Exit.then]
    exact bodyPost_ret (v := .agg #[.int .i64 cc, .slice none 0 0]) (results_cell_row rfl _ _ gr 34 _ _ _ rfl HS.out Try.underlying34 rfl (by kernel_rfl)) rfl ⟨_, by rw [HCC.out], RdZ.nil _, HX.out⟩
  · rw [h1]
    clear h1 HF
    obtain ⟨z0, z1, z2, z3⟩ := var2_facts VR.out
    have HS := hid (var2_set (x' := .int .i64 2) (y' := .slice none 0 0) VR.out)
    have HX := hid (below_set2 (x := .int .i64 2) (y := .slice none 0 0) BB.out GR.out)
    go_wp2
    try simp only [Exit.inBlock, Exit.then]
    exact bodyPost_ret (v := .agg #[.int .i64 2, .slice none 0 0]) (results_cell_row rfl _ _ gr 34 _ _ _ rfl HS.out Try.underlying34 rfl (by kernel_rfl)) rfl ⟨_, rfl, RdZ.nil _, HX.out⟩
  · rw [h1]
    have WK := hid (wF_zero h1)
    have h2' : ¬ (zs.length : Int) > 200 := by omega
    have HZ2 := hid h2
    clear h1 HF
    obtain ⟨a0, a1, -, -⟩ := var2_facts VA.out
    have A0 := cell_alloc a0 (.cells #[.int .i64 0, .slice none 0 0] 34)
    have A1 := cell_alloc a1 (.cells #[.int .i64 0, .slice none 0 0] 34)
    go_wp2_with fail
    clear a0 a1 A0 A1 h2'
    have VO := hid (heap_alloc2_old w1 (.cells #[.int .i64 0, .slice none 0 0] 34) (.cells #[.int .i64 top, .slice a l.length ca] 69))
    have VN := hid (heap_alloc2_new w1 (.cells #[.int .i64 0, .slice none 0 0] 34) (.cells #[.int .i64 top, .slice a l.length ca] 69))
    have hA := below_alloc2 w1 (.cells #[.int .i64 0, .slice none 0 0] 34) (.cells #[.int .i64 top, .slice a l.length ca] 69)
    have E2 : ((w1.alloc (.cells #[.int .i64 0, .slice none 0 0] 34)).alloc (.cells #[.int .i64 top, .slice a l.length ca] 69)).heap.size = w1.heap.size + 1 + 1 := by simp
    generalize (w1.alloc (.cells #[.int .i64 0, .slice none 0 0] 34)).alloc (.cells #[.int .i64 top, .slice a l.length ca] 69) = w2 at *
    obtain ⟨go, hgo⟩ : ∃ g, g = w1.heap.size := ⟨_, rfl⟩
    obtain ⟨gn, hgn⟩ : ∃ g, g = w1.heap.size + 1 := ⟨_, rfl⟩
    rw [← hgn] at VN ⊢
    rw [← hgo] at VO ⊢
    have N1 := hid (show gn = go + 1 by omega)
    have N2 := hid (show go = w1.heap.size from hgo)
    have N3 := hid (show w2.heap.size = gn + 1 by omega)
    have N4 := hid (show gr < go by rw [hgo]; exact var_lt VR.out)
    have B2 := hid (show Below go w1 w2 by rw [hgo]; exact hA)
    have R2 := hid (H.out.below hA)
    have A2 := hid (show ∀ b o cap, 0 < l.length → Value.slice a l.length ca = .slice (some ⟨b, o, none⟩) l.length cap → (b < go ∨ gn < b) ∧ (Value.slice none 0 0).ownBlock ≠ some b from fun b o cap h0 e => by
      obtain ⟨a', c', e', -, -, hcs⟩ := H.out.parts
      obtain ⟨b', o', e2, hc⟩ := hcs 0 h0
      cases e'
      cases e
      cases e2
      exact ⟨.inl (by rw [hgo]; exact World.block_lt_of_cell? w1 _ hc), by simp [Value.ownBlock]⟩)
    clear hgo hgn E2 hA
    have KK := hid (taSt_ok WK.out zs)
    go_loopw [8] (fun s8 wr => ∃ (k : Nat) (st : Int) (sl : List Int) (vn u : Value) (al : List Int), k ≤ zs.length ∧ s8 = .int .i64 k ∧ Hid ((st, sl) = taSt top l zs k ∧ al = taL top l zs k) ∧ Hid (wr.heap[gn]? = some (.cells #[.int .i64 st, vn] 69)) ∧ Hid (RdZ wr vn sl) ∧ Hid (wr.heap[go]? = some (.cells #[.int .i64 0, u] 34)) ∧ Hid (OwZ wr (gn + 1) u al) ∧ Hid (∀ b o cap, 0 < sl.length → vn = .slice (some ⟨b, o, none⟩) sl.length cap → (b < go ∨ gn < b) ∧ u.ownBlock ≠ some b) ∧ Hid (Below go w1 wr) ∧ Hid (gn + 1 ≤ wr.heap.size)) (fun s8 _ => zs.length - (intOf s8).toNat)
    case atStart => exact ⟨0, top, l, _, .slice none 0 0, [], Nat.zero_le _, rfl, hid ⟨rfl, rfl⟩, VN, R2, VO, hid (OwZ.nil _ _), A2, B2, hid (Nat.le_of_eq N3.out.symm)⟩
    case round =>
      clear VN R2 VO A2 B2
      obtain ⟨k, st, sl, vn, u, al, hk, rfl, EQ, VN, RN, VO, OU, AP, BL, SG⟩ := hrel
      have WS := hid (show WOk st sl by have := KK.out k; rw [← EQ.out.1] at this; exact this)
      have AL := hid (show al.length ≤ k by rw [EQ.out.2]; exact taL_len _ _ _ _)
      have SO := hid (show go ≤ wr.heap.size by have := SG.out; have := N1.out; omega)
      obtain ⟨pn, cn, rfl, -, -, -⟩ := RN.out.parts
      obtain ⟨pu, cu, rfl, -, -, -⟩ := OU.out.rd.parts
      by_cases hlt : k < zs.length
      · obtain ⟨a', c', e', -, -, hcs⟩ := HZ.out.parts
        cases e'
        obtain ⟨b, o, rfl, ck⟩ := hcs k hlt
        have LBk := World.block_lt_of_cell? w1 _ ck
        replace ck := cell_low BL.out ck (by rw [N2.out]; exact LBk)
        clear hcs LBk
        by_cases hc : tkC st sl zs[k] = 0
        · have Y := hid (taSt_yes (top := top) (l := l) hlt (by rw [← EQ.out.1]; exact hc))
          have HC := hid hc
          clear hc
          go_wp2_with fail
          clear ck
          refine (l6t_ok gn st zs[k] _ sl _ VN.out RN.out WS.out.rng HC.out (Nat.le_trans WS.out.len (by omega))).mono ?_
          rintro e w4 ⟨vm, rfl, hO, hB⟩
          obtain ⟨pm, cm, rfl, -, -, -⟩ := hO.rd.parts
          obtain ⟨nl, hnl⟩ : ∃ x, x = insZ (tkT st zs[k] - 16) zs[k] sl := ⟨_, rfl⟩
          obtain ⟨tt, htt⟩ : ∃ x, x = tkT st zs[k] := ⟨_, rfl⟩
          rw [← htt] at hnl ⊢
          rw [← hnl]
          rw [← htt, ← hnl] at hO
          have HNL := hid hnl
          have HTT := hid htt
          have hA := below_alloc1 w4 (.cells #[.int .i64 tt, .slice pm nl.length cm] 69)
          have VX := heap_alloc_new w4 (.cells #[.int .i64 tt, .slice pm nl.length cm] 69)
          have hB2 := hB.trans (hA.mono hB.size)
          have VN5 := var_below hB2 VN.out
          have VN6 := hid (var2_set (x' := .int .i64 tt) (y' := .slice pm nl.length cm) VN5)
          have VO5 := var_below hB2 VO.out
          have NG := hid (show go ≠ gn by have := N1.out; omega)
          have VO6 := var_otherZ (var_otherZ VO5 ⟨gn, 0, none⟩ (.int .i64 tt) NG.out) ⟨gn, 1, none⟩ (.slice pm nl.length cm) NG.out
          have OU6 : OwZ (((w4.alloc (.cells #[.int .i64 tt, .slice pm nl.length cm] 69)).setCell ⟨gn, 0, none⟩ (.int .i64 tt)).setCell ⟨gn, 1, none⟩ (.slice pm nl.length cm)) (gn + 1) (.slice pu al.length cu) al := ownsRow_setCell_below (ownsRow_setCell_below (OU.out.below hB2) (a := ⟨gn, 0, none⟩) (Nat.lt_succ_self gn) (.int .i64 tt)) (a := ⟨gn, 1, none⟩) (Nat.lt_succ_self gn) (.slice pm nl.length cm)
          have ON6 : OwZ (((w4.alloc (.cells #[.int .i64 tt, .slice pm nl.length cm] 69)).setCell ⟨gn, 0, none⟩ (.int .i64 tt)).setCell ⟨gn, 1, none⟩ (.slice pm nl.length cm)) wr.heap.size (.slice pm nl.length cm) nl := ownsRow_setCell_below (ownsRow_setCell_below (hO.below hA) (a := ⟨gn, 0, none⟩) (Nat.lt_of_succ_le SG.out) (.int .i64 tt)) (a := ⟨gn, 1, none⟩) (Nat.lt_of_succ_le SG.out) (.slice pm nl.length cm)
          have B6 : Below go wr (((w4.alloc (.cells #[.int .i64 tt, .slice pm nl.length cm] 69)).setCell ⟨gn, 0, none⟩ (.int .i64 tt)).setCell ⟨gn, 1, none⟩ (.slice pm nl.length cm)) := ((hB2.mono SO.out).setCell (p := ⟨gn, 0, none⟩) (by rw [N1.out]; exact Nat.le_succ _) (.int .i64 tt)).setCell (p := ⟨gn, 1, none⟩) (by rw [N1.out]; exact Nat.le_succ _) (.slice pm nl.length cm)
          have EZ : (((w4.alloc (.cells #[.int .i64 tt, .slice pm nl.length cm] 69)).setCell ⟨gn, 0, none⟩ (.int .i64 tt)).setCell ⟨gn, 1, none⟩ (.slice pm nl.length cm)).heap.size = w4.heap.size + 1 := by simp
          have hA7 := below_alloc1 (((w4.alloc (.cells #[.int .i64 tt, .slice pm nl.length cm] 69)).setCell ⟨gn, 0, none⟩ (.int .i64 tt)).setCell ⟨gn, 1, none⟩ (.slice pm nl.length cm)) (.cells #[.int .i64 (k : Int)] 2)
          have CX : ((((w4.alloc (.cells #[.int .i64 tt, .slice pm nl.length cm] 69)).setCell ⟨gn, 0, none⟩ (.int .i64 tt)).setCell ⟨gn, 1, none⟩ (.slice pm nl.length cm)).alloc (.cells #[.int .i64 (k : Int)] 2)).cell? ⟨w4.heap.size + 1, 0, none⟩ = some (.int .i64 (k : Int)) := by
            have q := heap_alloc_new (((w4.alloc (.cells #[.int .i64 tt, .slice pm nl.length cm] 69)).setCell ⟨gn, 0, none⟩ (.int .i64 tt)).setCell ⟨gn, 1, none⟩ (.slice pm nl.length cm)) (.cells #[.int .i64 (k : Int)] 2)
            rw [EZ] at q
            rw [cell_of_row _ _ 0 _ _ _ q]
            rfl
          have VN7 := hid (var_below hA7 VN6.out)
          have VO7 := hid (var_below hA7 VO6)
          have OU7 := hid (OU6.below hA7)
          have ON7 := hid (ON6.below hA7)
          have B7 := hid (B6.trans (hA7.mono (by rw [EZ]; exact Nat.le_trans SO.out (Nat.le_trans hB.size (Nat.le_succ _)))))
          have S7 := hid (show gn + 1 ≤ ((((w4.alloc (.cells #[.int .i64 tt, .slice pm nl.length cm] 69)).setCell ⟨gn, 0, none⟩ (.int .i64 tt)).setCell ⟨gn, 1, none⟩ (.slice pm nl.length cm)).alloc (.cells #[.int .i64 (k : Int)] 2)).heap.size from Nat.le_trans SG.out (by rw [World.size_alloc, EZ]; exact Nat.le_trans hB.size (Nat.le_trans (Nat.le_succ _) (Nat.le_succ _))))
          have SW := hid (show wr.heap.size ≤ w4.heap.size from hB.size)
          have UB := hid (fun j (e : (Value.slice pu al.length cu).ownBlock = some j) => (OU.out.lt j e).2)
          obtain ⟨x0, x1, -, -⟩ := var2_facts VX
          obtain ⟨n0, n1, n2, n3⟩ := var2_facts VN5
          obtain ⟨o0, o1, o2, o3⟩ := var2_facts VO6
          have LA := hid (show al.length ≤ 4194304 by have := AL.out; have := HZ2.out; omega)
          obtain ⟨al2, hal⟩ : ∃ x, x = al ++ [(k : Int)] := ⟨_, rfl⟩
          have HAL := hid hal
          have LAL := hid (show al2.length = al.length + 1 by rw [hal]; simp)
          clear hnl htt hO hB hA hB2 VX VN5 VO5 VO6 OU6 ON6 B6 EZ hA7 hal
          go_wp2_with (at_builtin; refine list_appZl rfl _ _ rfl _ al (k : Int) (gn + 1) (w4.heap.size + 1) 1 rfl rfl OU7.out CX LA.out S7.out ?_; intro g8 c8 w8 hO8 hG8 hL8; have V8 := var_grown hG8 VO7.out (OU7.out.ne (by have := N1.out; omega)); obtain ⟨p0, p1, p2, p3⟩ := var2_facts V8)
          have NV := hid (show (Value.slice pm nl.length cm).ownBlock = none ∨ (Value.slice pm nl.length cm).ownBlock ≠ (Value.slice pu al.length cu).ownBlock by
            cases e : (Value.slice pm nl.length cm).ownBlock with
            | none => exact .inl rfl
            | some j =>
              refine .inr fun e2 => ?_
              have h1 := (ON7.out.lt j e).1
              have h2 := UB.out j e2.symm
              omega)
          have ON8 := ON7.out.kept hG8 NV.out
          have ON9 : OwZ _ _ _ _ := ownsRow_setCell_below ON8 (a := ⟨go, 1, none⟩) (show go < wr.heap.size by have := N1.out; have := SG.out; omega) (.slice (some ⟨g8, 0, none⟩) (al.length + 1) c8)
          have VN9 := var_otherZ (var_grown hG8 VN7.out (OU7.out.ne (Nat.lt_succ_self gn))) ⟨go, 1, none⟩ (.slice (some ⟨g8, 0, none⟩) (al.length + 1) c8) (fun e => NG.out e.symm)
          have VO9 := cellS1z (y' := .slice (some ⟨g8, 0, none⟩) (al.length + 1) c8) V8
          have OU9 : OwZ _ _ _ _ := ownsRow_setCell_below hO8 (a := ⟨go, 1, none⟩) (show go < gn + 1 by have := N1.out; omega) (.slice (some ⟨g8, 0, none⟩) (al.length + 1) c8)
          have B9 := ((BL.out.trans B7.out).trans (below_of_grown hG8 (Nat.le_trans SO.out B7.out.size) (OU7.out.row (by have := N1.out; omega)))).setCell (p := ⟨go, 1, none⟩) (Nat.le_refl _) (.slice (some ⟨g8, 0, none⟩) (al.length + 1) c8)
          refine ⟨⟨k + 1, tt, nl, _, _, al ++ [(k : Int)], hlt, by go_num, hid ⟨by rw [Y.out.1, ← EQ.out.1, HNL.out, HTT.out], by rw [Y.out.2, ← EQ.out.2]⟩, hid VN9, hid ON9.rd, hid VO9, hid OU9, hid ?_, hid B9, hid ?_⟩, ?_⟩
          · intro b' o' cap' h0 e
            rcases ON7.out.2 with ⟨q, q0⟩ | ⟨g', cap2, cur, q, hg1, hg2, -⟩
            · rw [q0] at h0
              exact absurd h0 (Nat.lt_irrefl _)
            · rw [e] at q
              cases q
              refine ⟨.inr (Nat.lt_of_lt_of_le (Nat.lt_of_succ_le SG.out) hg1), fun e2 => ?_⟩
              have e3 : g8 = b' := Option.some.inj e2
              rcases hL8 with q | q
              · have := UB.out g8 q
                omega
              · have := (Array.getElem?_eq_some_iff.1 hg2).1
                rw [← e3, q] at this
                exact absurd this (Nat.lt_irrefl _)
          · rw [size_setZ]
            exact Nat.le_trans S7.out hG8.size
          · simp [intOf]; omega
        · have Y := hid (taSt_no (top := top) (l := l) hlt (by rw [← EQ.out.1]; exact hc))
          have HC := hid hc
          clear hc
          go_wp2_with fail
          clear ck
          refine (l6t_no gn st zs[k] _ sl _ VN.out RN.out WS.out.rng HC.out).mono ?_
          rintro e w4 ⟨rfl, hB⟩
          have hA := below_alloc1 w4 (.cells #[.int .i64 0, .slice none 0 0] 69)
          have hB2 := hB.trans (hA.mono hB.size)
          have VN2 := hid (var_below hB2 VN.out)
          have VO2 := hid (var_below hB2 VO.out)
          have RN2 := hid (RN.out.below hB2)
          have OU2 := hid (OU.out.below hB2)
          have BL2 := hid (BL.out.trans (hB2.mono SO.out))
          have SG2 := hid (Nat.le_trans SG.out hB2.size)
          obtain ⟨cc, hcc⟩ : ∃ c, c = tkC st sl zs[k] := ⟨_, rfl⟩
          rw [← hcc] at HC ⊢
          have ne : (cc == 0) = false := by simpa using HC.out
          clear hcc hA hB hB2
          go_wp2
          go_roundw
          case rel => exact ⟨k + 1, st, sl, _, _, al, hlt, by go_num, hid ⟨by rw [Y.out.1]; exact EQ.out.1, by rw [Y.out.2]; exact EQ.out.2⟩, VN2, RN2, VO2, OU2, AP, BL2, SG2⟩
          case measure => simp [intOf]; omega
      · have hke : k = zs.length := by omega
        subst hke
        have VR2 := hid (var_keep BL.out VR.out N4.out)
        have BE := hid (BB.out.trans (BL.out.mono (by rw [N2.out]; exact BB.out.size)))
        have hnl : ¬ ((zs.length : Int) < (zs.length : Int)) := by omega
        obtain ⟨z0, z1, z2, z3⟩ := var2_facts VR2.out
        obtain ⟨o0, o1, o2, o3⟩ := var2_facts VO.out
        have HS := hid (var2_set (x' := .int .i64 0) (y' := .slice pu al.length cu) VR2.out)
        have HX := hid (below_set2 (x := .int .i64 0) (y := .slice pu al.length cu) BE.out GR.out)
        have HQ := hid (show OwZ _ _ _ _ from ownsRow_setCell_below (ownsRow_setCell_below OU.out (a := ⟨gr, 0, none⟩) (show gr < gn + 1 by have := N1.out; have := N4.out; omega) (.int .i64 0)) (a := ⟨gr, 1, none⟩) (show gr < gn + 1 by have := N1.out; have := N4.out; omega) (.slice pu al.length cu))
        go_wp2
        try simp only [Exit.inBlock, Exit.then]
        exact bodyPost_ret (v := .agg #[.int .i64 0, .slice pu al.length cu]) (results_cell_row rfl _ _ gr 34 _ _ _ rfl HS.out Try.underlying34 rfl (by kernel_rfl)) rfl ⟨_, rfl, by rw [← EQ.out.2]; exact HQ.out.rd, HX.out⟩
end Go.Proofs.Ytalaolfcdaaaoaa.W
