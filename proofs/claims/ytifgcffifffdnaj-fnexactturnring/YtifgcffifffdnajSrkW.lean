/-
  A ring that loses a key: what the model's RemoveKey answers.
-/
import Derived.Test.YtifgcffifffdnajFkW
import Derived.Test.YtifgcffifffdnajRkF
import Derived.Test.YtifgcffifffdnajL4cW
import Derived.Test.YtifgcffifffdnajFarW
import Derived.Deep.AppendLies
namespace Go.Proofs.Ytifgcffifffdnaj.W
open Go.ChangeShapes Go.WideShapes Go.ChangeAt Go.RowKit
open Go.Proofs.Ytifgcffifffdnaj.M

theorem cell_agr {lo hi b : Nat} {w w' : World} (h : Agr lo hi w w') (h1 : lo ≤ b) (h2 : b < hi) (i : Nat) : w'.cell? ⟨b, i, none⟩ = w.cell? ⟨b, i, none⟩ := by
  have e := h b h1 h2
  simp only [World.cell?, e]
theorem agr_trans {lo hi : Nat} {a b c : World} (h : Agr lo hi a b) (k : Agr lo hi b c) : Agr lo hi a c := fun j h1 h2 => (k j h1 h2).trans (h j h1 h2)
theorem orow_below {w w' : World} {base n : Nat} {T : TypeId} {m : Nat} {v : Value} {xs : List Value} (h : w.ownsRow base T m v n xs) (hb : Below w.heap.size w w') : w'.ownsRow base T m v n xs := by
  refine ⟨h.1, ?_⟩
  rcases h.2 with hn | ⟨g, cap, cur, rfl, hbb, hgg, rest⟩
  · exact .inl hn
  · exact .inr ⟨g, cap, cur, rfl, hbb, by rw [hb.block g (Array.getElem?_eq_some_iff.1 hgg).1]; exact hgg, rest⟩
/-- The cells L tell the keys acc, their bytes in memory of w between lo and hi. -/
def El (w : World) (lo hi : Nat) (acc : List (Int × List Nat)) (L : List Value) : Prop := ∀ i (h : i < acc.length), ∃ u, L[i * 2]? = some (.int .i64 acc[i].1) ∧ L[i * 2 + 1]? = some u ∧ OB w lo hi u acc[i].2
theorem el_snoc {w : World} {lo hi : Nat} {acc : List (Int × List Nat)} {L : List Value} {x : Int × List Nat} {u : Value} (h : El w lo hi acc L) (hl : L.length = acc.length * 2) (hu : OB w lo hi u x.2) : El w lo hi (acc ++ [x]) (L ++ [.int .i64 x.1, u]) := fun i hi' => by
  rcases Nat.lt_or_ge i acc.length with q | q
  · obtain ⟨u', h1, h2, h3⟩ := h i q
    refine ⟨u', ?_, ?_, ?_⟩
    · rw [List.getElem?_append_left (by omega), List.getElem_append_left q]; exact h1
    · rw [List.getElem?_append_left (by omega)]; exact h2
    · rw [List.getElem_append_left q]; exact h3
  · have e : i = acc.length := by simp at hi'; omega
    subst e
    refine ⟨u, ?_, ?_, ?_⟩
    · rw [List.getElem?_append_right (by omega), List.getElem_append_right (by omega), show acc.length * 2 - L.length = 0 by omega]
      simp
    · rw [List.getElem?_append_right (by omega), show acc.length * 2 + 1 - L.length = 1 by omega]
      rfl
    · rw [List.getElem_append_right (by omega)]
      simpa using hu
theorem el_rd {w w' : World} {lo hi base : Nat} {v : Value} {acc : List (Int × List Nat)} {L : List Value} (h : El w lo hi acc L) (ha : Agr lo hi w w') (hO : w'.ownsRow base 28 2 v acc.length L) : RdK w' v acc := by
  rcases hO.2 with ⟨rfl, h0⟩ | ⟨g, cap, cur, rfl, hb, hg, hn, hm, hs, ht⟩
  · obtain rfl := List.eq_nil_of_length_eq_zero h0
    exact RdK.nil _
  · refine ⟨_, cap, rfl, hn, hm, fun i hi => ?_⟩
    obtain ⟨u, h1, h2, h3⟩ := h i hi
    have hc := fun j hj => World.ownsRow.cellAt hO j hj
    refine ⟨g, 0, u, rfl, ?_, ?_, (h3.agr ha).rd⟩
    · rw [Nat.zero_add, hc (i * 2) (by omega), h1]
    · rw [Nat.zero_add, hc (i * 2 + 1) (by omega), h2]
theorem el_far {w w' : World} {lo hi base b0 : Nat} {v : Value} {acc : List (Int × List Nat)} {L : List Value} (h : El w lo hi acc L) (ha : Agr lo hi w w') (hO : w'.ownsRow base 28 2 v acc.length L) (h1 : b0 ≤ lo) (h2 : b0 ≤ base) : FarK w' b0 v acc := fun w2 hw =>
  el_rd h (w' := w2) (fun j q1 q2 => (hw j (Nat.le_trans h1 q1)).trans (ha j q1 q2)) (base := base) ⟨hO.1, by
    rcases hO.2 with hn | ⟨g, cap, cur, rfl, hbb, hgg, rest⟩
    · exact .inl hn
    · exact .inr ⟨g, cap, cur, rfl, hbb, by rw [hw g (by omega)]; exact hgg, rest⟩⟩
theorem step_appR {ops : Array Oper} {o : Oper} {a : Act} {w : World} {K : Act → World → Prop} {Q : Exit → Act → World → Prop} {E : Prop} (hgd : o.guard = none) (s x : Operand)
    (ho : o.op = .call { callee := .builtin .append, args := #[s, x], argTypes := #[32, 32] }) (v u : Value) (n : Nat) (L : List Value) (base gx cx : Nat) (id' : Int) (hs : a.eval s = v) (hx : a.eval x = .slice (some ⟨gx, 0, none⟩) 1 cx) (h : w.ownsRow base 28 2 v n L) (hb : base ≤ w.heap.size)
    (c0 : w.cell? ⟨gx, 0, none⟩ = some (.int .i64 id')) (c1 : w.cell? ⟨gx, 1, none⟩ = some u) (h1 : u.oneCell' = true) (hn : n ≤ 1048576)
    (hK : ∀ g cap w', w'.ownsRow base 28 2 (.slice (some ⟨g, 0, none⟩) (n + 1) cap) (n + 1) (L ++ [.int .i64 id', u]) → w.grownBy w' v.ownBlock → K (a.put o.dst (.slice (some ⟨g, 0, none⟩) (n + 1) cap)) w') : if Region.wanted o (yielded ops a.tmps) = true then Oper.wp Try.prog o a w K Q else E := by
  have hw : Region.wanted o (yielded ops a.tmps) = true := by simp [Region.wanted, hgd]
  rw [if_pos hw]
  obtain ⟨i0, hi, hz0, hz1, hz2⟩ := info_parts infoKa
  exact wp_append_lies w s x 32 ho base 28 i0 _ 2 32 Try.underlying32 hi hz0 hz1 hz2 rfl (by omega) v n L hs h ⟨gx, 0, none⟩ 1 cx [.int .i64 id', u] hx rfl (fun j x hj => by
    match j, hj with
    | 0, hj => cases hj; exact c0
    | 1, hj => cases hj; exact c1
    | j + 2, hj => simp at hj) (fun x hx => by
    rcases List.mem_cons.1 hx with rfl | hx
    · rfl
    · obtain rfl := List.mem_singleton.1 hx; exact h1) (by omega) (by unfold maxLen; omega) (by omega) hb _ rfl
    (fun g cap w' r1 r2 _ _ => hK g cap w' r1 r2)
set_option maxHeartbeats 4000000 in
set_option maxRecDepth 100000 in
theorem srk (p id' : Int) (v : Value) (ks : List (Int × List Nat)) (c rk : Int) (l : List (Int × List Nat)) (w : World) (h : RdK w v ks) (hF : rmIs p ks id' c rk l) :
    Calls Try.prog 29 #[.agg #[.int .i64 p, v], .int .i64 id'] w fun e w' => ∃ v', e = .returned (.agg #[.int .i64 c, .int .i64 rk, v']) ∧ FarK w' w.heap.size v' l ∧ Below w.heap.size w w' := by
  have H := hid h
  have HF := hid hF
  obtain ⟨a, cap, rfl, -, hcm, -⟩ := h.parts
  clear h hF hcm
  go_enter Try.func29, Try.ntmps29
  go_wp2_with fail
  have VA := hid (heap_alloc2_old w (.cells #[.int .i64 p, .slice a ks.length cap] 34) (.cells #[.int .i64 0, .int .i64 0, .slice none 0 0] 44))
  have VR := hid (heap_alloc2_new w (.cells #[.int .i64 p, .slice a ks.length cap] 34) (.cells #[.int .i64 0, .int .i64 0, .slice none 0 0] 44))
  have BB := hid (below_alloc2 w (.cells #[.int .i64 p, .slice a ks.length cap] 34) (.cells #[.int .i64 0, .int .i64 0, .slice none 0 0] 44))
  replace H := hid (H.out.below BB.out)
  generalize (w.alloc (.cells #[.int .i64 p, .slice a ks.length cap] 34)).alloc (.cells #[.int .i64 0, .int .i64 0, .slice none 0 0] 44) = w0 at *
  obtain ⟨g1, hg1⟩ : ∃ g, g = w.heap.size + 1 := ⟨_, rfl⟩
  obtain ⟨g, hg⟩ : ∃ g, g = w.heap.size := ⟨_, rfl⟩
  have LG := hid (show w.heap.size ≤ g1 by omega)
  rw [← hg1] at VR ⊢
  rw [← hg] at VA ⊢
  clear hg hg1
  refine (srf p _ ks _ H.out).mono ?_
  rintro e w1 ⟨rfl, hB⟩
  replace VA := hid (var_below hB VA.out)
  replace VR := hid (var_below hB VR.out)
  replace H := hid (H.out.below hB)
  replace BB := hid (BB.out.trans (hB.mono BB.out.size))
  clear hB
  obtain ⟨f, hf⟩ : ∃ f, f = rF p ks := ⟨_, rfl⟩
  rw [← hf]
  by_cases h0 : f = 0
  · subst h0
    obtain ⟨k1, k3, k16, -, -⟩ := rF_parts hf.symm
    replace hf := hid hf
    have K16 := hid (fun i hi => (k16 i hi).2)
    clear k16
    go_wp2_with fail
    refine (l4find g p id' _ ks _ VA.out H.out (by omega)).mono ?_
    rintro e w2 ⟨r, rfl, hr, hB⟩
    replace VA := hid (var_below hB VA.out)
    replace VR := hid (var_below hB VR.out)
    replace H := hid (H.out.below hB)
    replace BB := hid (BB.out.trans (hB.mono BB.out.size))
    clear hB
    rcases hr with ⟨rfl, hN⟩ | ⟨i, hi, rfl, he, hn⟩
    · obtain ⟨rfl, rfl, rfl⟩ := rk_none HF.out hf.out.symm hN
      replace hN := hid hN
      obtain ⟨⟨r0, r1, r2⟩, y0, y1, y2⟩ := w3_facts VR.out
      have hset := hid (w3_set (x' := .int .i64 4) (y' := .int .i64 0) (z' := .slice none 0 0) VR.out)
      have hbel := hid (w3_below (g := g1) (x := .int .i64 4) (y := .int .i64 0) (z := .slice none 0 0) BB.out LG.out)
      go_wp2
      try simp only [Exit.inBlock, Exit.then]
      exact bodyPost_ret (v := .agg #[.int .i64 4, .int .i64 0, .slice none 0 0]) (results_cell_row rfl _ _ g1 44 _ _ _ rfl hset.out Try.underlying44 rfl (by kernel_rfl)) rfl ⟨_, rfl, FarK.nil _ _, hbel.out⟩
    · have HH := hid (show Has ks id' from ⟨i, hi, he⟩)
      replace he := hid he
      replace hn := hid hn
      have i0 : ¬ ((i : Int) < 0) := by omega
      obtain ⟨v0, v1, -, -⟩ := var2_facts VA.out
      by_cases hp : id' = p
      · obtain ⟨rfl, rfl, rfl⟩ := rk_own HF.out hf.out.symm HH.out hp
        subst hp
        obtain ⟨⟨r0, r1, r2⟩, y0, y1, y2⟩ := w3_facts VR.out
        have hset := hid (w3_set (x' := .int .i64 8) (y' := .int .i64 0) (z' := .slice none 0 0) VR.out)
        have hbel := hid (w3_below (g := g1) (x := .int .i64 8) (y := .int .i64 0) (z := .slice none 0 0) BB.out LG.out)
        go_wp2
        try simp only [Exit.inBlock, Exit.then]
        exact bodyPost_ret (v := .agg #[.int .i64 8, .int .i64 0, .slice none 0 0]) (results_cell_row rfl _ _ g1 44 _ _ _ rfl hset.out Try.underlying44 rfl (by kernel_rfl)) rfl ⟨_, rfl, FarK.nil _ _, hbel.out⟩
      obtain ⟨rfl, rfl, rfl⟩ := rk_ok HF.out hf.out.symm HH.out hp
      have hpe : (rk == id') = false := by simp; exact fun q => hp q.symm
      have V0 := cell_alloc v0 (.cells #[.int .i64 rk, .slice none 0 0] 34)
      go_wp2_with fail
      clear v0 v1 V0 hpe
      have VO := hid (heap_alloc_new w2 (.cells #[.int .i64 rk, .slice none 0 0] 34))
      have hA := below_alloc1 w2 (.cells #[.int .i64 rk, .slice none 0 0] 34)
      have E3 : (w2.alloc (.cells #[.int .i64 rk, .slice none 0 0] 34)).heap.size = w2.heap.size + 1 := by simp
      replace VA := hid (var_below hA VA.out)
      replace H := hid (H.out.below hA)
      generalize w2.alloc (.cells #[.int .i64 rk, .slice none 0 0] 34) = w3 at *
      have LW := hid (show g1 < w2.heap.size from var_lt VR.out)
      obtain ⟨go, hgo⟩ : ∃ g, g = w2.heap.size := ⟨_, rfl⟩
      rw [← hgo] at VO LW ⊢
      have GS := hid hgo
      have GL := hid (show w3.heap.size = go + 1 by omega)
      have B3 := hid hA
      clear hgo hA E3
      refine (l4copy g rk _ ks _ VA.out H.out K16.out (by omega)).mono ?_
      rintro e w4 ⟨v', rfl, hO, hB⟩
      obtain ⟨gb, cv, rfl, -, -, -⟩ := hO.shape (by omega)
      have VW := heap_alloc_new w4 (.cells #[.int .i64 rk, .slice (some ⟨gb, 0, none⟩) ks.length cv] 34)
      have hA := below_alloc1 w4 (.cells #[.int .i64 rk, .slice (some ⟨gb, 0, none⟩) ks.length cv] 34)
      have E5 : (w4.alloc (.cells #[.int .i64 rk, .slice (some ⟨gb, 0, none⟩) ks.length cv] 34)).heap.size = w4.heap.size + 1 := by simp
      go_wp2_with fail
      have OO := hid (hO.below hA)
      have VO5 := hid (var_below (hB.trans (hA.mono hB.size)) VO.out)
      have B5 := hid (show Below go w2 _ by rw [GS.out]; exact B3.out.trans ((hB.trans (hA.mono hB.size)).mono B3.out.size))
      have SZ := hid hB.size
      generalize w4.alloc (.cells #[.int .i64 rk, .slice (some ⟨gb, 0, none⟩) ks.length cv] 34) = w5 at *
      obtain ⟨lo, hlo⟩ : ∃ g, g = w3.heap.size := ⟨_, rfl⟩
      obtain ⟨gw, hgw⟩ : ∃ g, g = w4.heap.size := ⟨_, rfl⟩
      obtain ⟨bs, hbs⟩ : ∃ g, g = w5.heap.size := ⟨_, rfl⟩
      rw [← hgw] at VW OO SZ ⊢
      rw [← hlo] at OO SZ GL
      have EB := hid (show bs = gw + 1 by omega)
      have GO := hid (show go ≤ lo by have := GL.out; omega)
      have GLO := hid (show go < lo by have := GL.out; omega)
      have NW := hid (show lo ≤ gw ∧ gw < bs from ⟨SZ.out, by have := EB.out; omega⟩)
      have LGB := hid (show go < bs by have := GLO.out; have := NW.out; omega)
      have LB := hid (show lo ≤ bs by have := NW.out; omega)
      have SB := hid (Nat.le_of_eq hbs)
      obtain ⟨L0, q1, q2, q3, -⟩ := OO.out
      have NB := hid (show lo ≤ gb ∧ gb < bs from ⟨(World.ownsRow.lt q1 gb rfl).1, by have := q2 gb rfl; have := EB.out; omega⟩)
      have VW2 := hid VW
      have Q1 := hid q1
      have Q3 := hid q3
      clear hlo hgw hbs hO hB hA VW E5 q1 q2 q3 VO OO VA
      go_loopw [8] (fun s8 wr => ∃ (k : Nat) (v : Value) (acc : List (Int × List Nat)) (LL : List Value), k ≤ ks.length ∧ s8 = .int .i64 k ∧ Hid (acc = rmv id' (ks.take k)) ∧ Hid (wr.heap[go]? = some (.cells #[.int .i64 rk, v] 34)) ∧ Hid (wr.ownsRow bs 28 2 v acc.length LL) ∧ Hid (El w5 lo gw acc LL) ∧ Hid (Agr lo bs w5 wr) ∧ Hid (Below go w2 wr) ∧ Hid (bs ≤ wr.heap.size)) (fun s8 _ => ks.length - (intOf s8).toNat)
      case atStart => exact ⟨0, .slice none 0 0, [], [], Nat.zero_le _, rfl, hid rfl, VO5, hid (World.ownsRow_nil _ _ _ _), hid (fun i h => absurd h (Nat.not_lt_zero _)), hid (fun _ _ _ => rfl), B5, SB⟩
      case round =>
        clear VO5 B5
        obtain ⟨k, v, acc, LL, hk, rfl, EA, VO, OR, EL, AG, BL, SG⟩ := hrel
        have AL := hid (show acc.length ≤ ks.length by rw [EA.out]; exact Nat.le_trans (rm_len _ _) (by rw [List.length_take]; omega))
        obtain ⟨w0', w1, -, -⟩ := var2_facts VW2.out
        have w1 := (cell_agr AG.out NW.out.1 NW.out.2 1).trans w1
        by_cases hlt : k < ks.length
        · obtain ⟨u, e0, e1, hOB⟩ : ∃ u, L0[k * 2]? = some (.int .i64 (ks[k]).1) ∧ L0[k * 2 + 1]? = some u ∧ OB w5 lo gw u (ks[k]).2 := by
            obtain ⟨u, h1, h2, h3, -⟩ := Q3.out k hlt
            exact ⟨u, h1, h2, h3⟩
          have b0 := (cell_agr AG.out NB.out.1 NB.out.2 (k * 2)).trans ((World.ownsRow.cellAt Q1.out (k * 2) (by omega)).trans e0)
          have b1 := (cell_agr AG.out NB.out.1 NB.out.2 (k * 2 + 1)).trans ((World.ownsRow.cellAt Q1.out (k * 2 + 1) (by omega)).trans e1)
          obtain ⟨pu, cu, rfl, -, -, -⟩ := hOB.rd.parts
          rw [K16.out k hlt] at b1 hOB
          have OBk := hid hOB
          have TK := hid (List.take_succ_eq_append_getElem hlt)
          have I1 := idx_kc gb 0 ks.length cv k hlt
          rw [Nat.zero_add] at I1
          have k0 : (0 : Int) ≤ (k : Int) := by omega
          have k1' : (k : Int) < (ks.length : Int) := by omega
          clear e0 e1 hOB
          by_cases hd : (ks[k]).1 = id'
          · have HD := hid hd
            rw [hd] at b0
            go_wp2
            go_roundw
            case rel => exact ⟨k + 1, v, acc, LL, hlt, by go_num, hid (by rw [TK.out, rmv, List.filter_append, ← rmv, ← EA.out]; simp [HD.out]), VO, OR, EL, AG, BL, SG⟩
            case measure => simp [intOf]; omega
          · have hid2 : ((ks[k]).1 != id') = true := by simpa using hd
            have hid3 := hid hd
            go_wp2_with fail
            refine wp_region_held_drew (S := fun w' => Agr lo bs wr w') (by kernel_rfl) (fun _ _ _ => rfl) (fun hH => ?_)
            replace VO := hid (show wr.drew.heap[go]? = _ from VO.out)
            have OR0 := OR
            replace OR := hid (show wr.drew.ownsRow bs 28 2 v acc.length LL from OR.out)
            have BX := hid (show Below go w2 wr.drew from BL.out.drew)
            have SX := hid (show bs ≤ wr.drew.heap.size from SG.out)
            have SX0 := SX
            generalize wr.drew = x at hH VO OR BX SX SX0 ⊢
            refine wpAnyH_take (i := 0) (v := .pointer (some ⟨go, 1, none⟩)) (by simp only [List.getElem?_toArray, List.getElem?_cons_zero]; rfl) (by kernel_rfl) (by kernel_rfl) (by kernel_rfl) (by intro _ _ _ h; exact h) (Or.inl ⟨by rfl, fun w hS => by go_simp⟩) hH ?_
            simp only [Act.put, List.setIfInBounds_toArray, List.set_cons_zero, List.set_cons_succ]
            refine wpAnyH_take (i := 2) (v := .pointer (some ⟨gw, 1, none⟩)) (by simp only [List.getElem?_toArray, List.getElem?_cons_succ, List.getElem?_cons_zero]; rfl) (by kernel_rfl) (by kernel_rfl) (by kernel_rfl) (by intro _ _ _ h; exact h) (Or.inl ⟨by rfl, fun w hS => by go_simp⟩) hH ?_
            simp only [Act.put, List.setIfInBounds_toArray, List.set_cons_zero, List.set_cons_succ]
            refine wpAnyH_take (i := 3) (v := .slice (some ⟨gb, 0, none⟩) ks.length cv) (by simp only [List.getElem?_toArray, List.getElem?_cons_succ, List.getElem?_cons_zero]; rfl) (by kernel_rfl) (by kernel_rfl) (by kernel_rfl) (by intro _ _ _ h; exact h) (Or.inl ⟨by rfl, fun w hS => by (have y := (cell_agr hS NW.out.1 NW.out.2 _).trans w1; go_simp)⟩) hH ?_
            simp only [Act.put, List.setIfInBounds_toArray, List.set_cons_zero, List.set_cons_succ]
            refine wpAnyH_take (i := 4) (v := .int .i64 (k : Int)) (by simp only [List.getElem?_toArray, List.getElem?_cons_succ, List.getElem?_cons_zero]; rfl) (by kernel_rfl) (by kernel_rfl) (by kernel_rfl) (by intro _ _ _ h; exact h) (Or.inl ⟨by rfl, fun w hS => by go_simp⟩) hH ?_
            simp only [Act.put, List.setIfInBounds_toArray, List.set_cons_zero, List.set_cons_succ]
            refine wpAnyH_take (i := 5) (v := .pointer (some ⟨gb, k * 2, none⟩)) (by simp only [List.getElem?_toArray, List.getElem?_cons_succ, List.getElem?_cons_zero]; rfl) (by kernel_rfl) (by kernel_rfl) (by kernel_rfl) (by intro _ _ _ h; exact h) (Or.inl ⟨by rfl, fun w hS => by (have y := I1 w; go_simp)⟩) hH ?_
            simp only [Act.put, List.setIfInBounds_toArray, List.set_cons_zero, List.set_cons_succ]
            refine wpAnyH_take (i := 6) (v := .agg #[.int .i64 (ks[k]).1, .slice pu 16 cu]) (by simp only [List.getElem?_toArray, List.getElem?_cons_succ, List.getElem?_cons_zero]; rfl) (by kernel_rfl) (by kernel_rfl) (by kernel_rfl) (by intro _ _ _ h; exact h) (Or.inl ⟨by rfl, fun w hS => by (have y0 := (cell_agr hS NB.out.1 NB.out.2 _).trans b0; have y1 := (cell_agr hS NB.out.1 NB.out.2 _).trans b1; go_simp)⟩) hH ?_
            simp only [Act.put, List.setIfInBounds_toArray, List.set_cons_zero, List.set_cons_succ]
            refine wpAnyH_ready (rs := [1, 7]) (by kernel_rfl) (by simp) ?_
            refine AllReadyH.cons (by simp only [List.getElem?_toArray, List.getElem?_cons_succ, List.getElem?_cons_zero]; rfl) (fun K hK => ?_) ?_
            · obtain ⟨q_0, q_1, -, -⟩ := var2_facts VO.out
              go_simp
              refine hK.out _ _ hH (fun hH => ?_)
              clear hK K q_0 q_1
              try simp only [Act.put, List.setIfInBounds_toArray, List.set_cons_zero, List.set_cons_succ]
              refine wpAnyH_ready (rs := [7]) (by kernel_rfl) (by simp) ?_
              refine AllReadyH.cons (by simp only [List.getElem?_toArray, List.getElem?_cons_succ, List.getElem?_cons_zero]; rfl) (fun K hK => ?_) AllReadyH.nil
              go_simp
              have hM := below_alloc1 x (.cells #[.int .i64 (ks[k]).1, .slice pu 16 cu] 28)
              replace VO := hid (var_below hM VO.out)
              replace OR := hid (orow_below OR.out hM)
              have VX := hid (heap_alloc_new x (.cells #[.int .i64 (ks[k]).1, .slice pu 16 cu] 28))
              replace SX := hid (Nat.le_trans SX.out hM.size)
              replace BX := hid (BX.out.trans (hM.mono (Nat.le_trans GO.out (Nat.le_trans LB.out SX0.out))))
              refine hK.out _ _ (fun j h1 h2 => (hM.block j (Nat.lt_of_lt_of_le h2 SX0.out)).trans (hH j h1 h2)) (fun hH => ?_)
              clear hK K hM
              generalize x.alloc (.cells #[.int .i64 (ks[k]).1, .slice pu 16 cu] 28) = x7 at *
              generalize x.heap.size = gx at *
              have SX1 := SX
              refine wpAnyH_ready (rs := [8]) (by kernel_rfl) (by simp) ?_
              refine AllReadyH.cons (by simp only [List.getElem?_toArray, List.getElem?_cons_succ, List.getElem?_cons_zero]; rfl) (fun K hK => ?_) AllReadyH.nil
              obtain ⟨c0, c1, -, -⟩ := var2_facts VX.out
              refine step_appR (by rfl) _ _ (by rfl) _ _ acc.length LL bs gx 1 (ks[k]).1 (by rfl) (by rfl) OR.out SX.out c0 c1 rfl (by have := AL.out; omega) ?_
              intro g8 c8 x8 hO hG
              have OR2 := hid hO
              have VO2 := hid (var_grown hG VO.out (fun e => absurd ((World.ownsRow.lt OR.out _ e.symm).1) (Nat.not_le_of_lt LGB.out)))
              replace BX := hid (BX.out.trans (below_of_grown hG (Nat.le_trans GO.out (Nat.le_trans LB.out SX.out)) (fun j e => Nat.le_trans (Nat.le_of_lt LGB.out) (World.ownsRow.lt OR.out j e).1)))
              replace SX := hid (Nat.le_trans SX.out hG.size)
              refine hK.out _ _ (fun j h1 h2 => (hG.block j (Nat.lt_of_lt_of_le h2 SX1.out) (fun e => absurd ((World.ownsRow.lt OR.out _ e.symm).1) (Nat.not_le_of_lt h2))).trans (hH j h1 h2)) (fun hH => ?_)
              clear hK K hO hG c0 c1 VX OR VO
              refine wpAnyH_take (i := 9) (v := .pointer (some ⟨go, 1, none⟩)) (by simp only [List.getElem?_toArray, List.getElem?_cons_succ, List.getElem?_cons_zero]; rfl) (by kernel_rfl) (by kernel_rfl) (by kernel_rfl) (by intro _ _ _ h; exact h) (Or.inl ⟨by rfl, fun w hS => by go_simp⟩) hH ?_
              simp only [Act.put, List.setIfInBounds_toArray, List.set_cons_zero, List.set_cons_succ]
              refine wpAnyH_ready (rs := [10]) (by kernel_rfl) (by simp) ?_
              refine AllReadyH.cons (by simp only [List.getElem?_toArray, List.getElem?_cons_succ, List.getElem?_cons_zero]; rfl) (fun K hK => ?_) AllReadyH.nil
              obtain ⟨e0, e1, e2, e3⟩ := var2_facts VO2.out
              go_simp
              have VO3 := hid (cellS1 (y' := .slice (some ⟨g8, 0, none⟩) (acc.length + 1) c8) VO2.out)
              have OR3 := hid (ownsRow_setCell_below OR2.out (a := ⟨go, 1, none⟩) LGB.out (.slice (some ⟨g8, 0, none⟩) (acc.length + 1) c8))
              replace BX := hid (BX.out.setCell (p := ⟨go, 1, none⟩) (Nat.le_refl _) (.slice (some ⟨g8, 0, none⟩) (acc.length + 1) c8))
              replace SX := hid (show bs ≤ (x8.setCell ⟨go, 1, none⟩ (.slice (some ⟨g8, 0, none⟩) (acc.length + 1) c8)).heap.size by rw [size_set1]; exact SX.out)
              refine hK.out _ _ (fun j h1 h2 => (Below.heap_setCell _ _ _ _ (show j ≠ go from fun e => absurd h1 (Nat.not_le_of_lt (e ▸ GLO.out)))).trans (hH j h1 h2)) (fun hH => ?_)
              clear hK K e0 e1 e2 e3 VO2 OR2
              refine wpAnyH_done (by kernel_rfl) ?_ _
              have AN := hid (agr_trans AG.out hH)
              clear hH
              go_wp2
              go_roundw
              case rel => exact ⟨k + 1, _, acc ++ [ks[k]], LL ++ [.int .i64 (ks[k]).1, .slice pu 16 cu], hlt, by go_num, hid (by rw [TK.out, rmv, List.filter_append, ← rmv, ← EA.out]; simp [hid2]), VO3, hid (by rw [List.length_append]; exact OR3.out), hid (el_snoc EL.out OR0.out.1 OBk.out), AN, BX, SX⟩
              case measure => simp [intOf]; omega
            refine AllReadyH.cons (by simp only [List.getElem?_toArray, List.getElem?_cons_succ, List.getElem?_cons_zero]; rfl) (fun K hK => ?_) ?_
            · go_simp
              have hM := below_alloc1 x (.cells #[.int .i64 (ks[k]).1, .slice pu 16 cu] 28)
              replace VO := hid (var_below hM VO.out)
              replace OR := hid (orow_below OR.out hM)
              have VX := hid (heap_alloc_new x (.cells #[.int .i64 (ks[k]).1, .slice pu 16 cu] 28))
              replace SX := hid (Nat.le_trans SX.out hM.size)
              replace BX := hid (BX.out.trans (hM.mono (Nat.le_trans GO.out (Nat.le_trans LB.out SX0.out))))
              refine hK.out _ _ (fun j h1 h2 => (hM.block j (Nat.lt_of_lt_of_le h2 SX0.out)).trans (hH j h1 h2)) (fun hH => ?_)
              clear hK K hM
              generalize x.alloc (.cells #[.int .i64 (ks[k]).1, .slice pu 16 cu] 28) = x7 at *
              generalize x.heap.size = gx at *
              have SX1 := SX
              refine wpAnyH_ready (rs := [1]) (by kernel_rfl) (by simp) ?_
              refine AllReadyH.cons (by simp only [List.getElem?_toArray, List.getElem?_cons_succ, List.getElem?_cons_zero]; rfl) (fun K hK => ?_) AllReadyH.nil
              obtain ⟨q_0, q_1, -, -⟩ := var2_facts VO.out
              go_simp
              refine hK.out _ _ hH (fun hH => ?_)
              clear hK K q_0 q_1
              try simp only [Act.put, List.setIfInBounds_toArray, List.set_cons_zero, List.set_cons_succ]
              refine wpAnyH_ready (rs := [8]) (by kernel_rfl) (by simp) ?_
              refine AllReadyH.cons (by simp only [List.getElem?_toArray, List.getElem?_cons_succ, List.getElem?_cons_zero]; rfl) (fun K hK => ?_) AllReadyH.nil
              obtain ⟨c0, c1, -, -⟩ := var2_facts VX.out
              refine step_appR (by rfl) _ _ (by rfl) _ _ acc.length LL bs gx 1 (ks[k]).1 (by rfl) (by rfl) OR.out SX.out c0 c1 rfl (by have := AL.out; omega) ?_
              intro g8 c8 x8 hO hG
              have OR2 := hid hO
              have VO2 := hid (var_grown hG VO.out (fun e => absurd ((World.ownsRow.lt OR.out _ e.symm).1) (Nat.not_le_of_lt LGB.out)))
              replace BX := hid (BX.out.trans (below_of_grown hG (Nat.le_trans GO.out (Nat.le_trans LB.out SX.out)) (fun j e => Nat.le_trans (Nat.le_of_lt LGB.out) (World.ownsRow.lt OR.out j e).1)))
              replace SX := hid (Nat.le_trans SX.out hG.size)
              refine hK.out _ _ (fun j h1 h2 => (hG.block j (Nat.lt_of_lt_of_le h2 SX1.out) (fun e => absurd ((World.ownsRow.lt OR.out _ e.symm).1) (Nat.not_le_of_lt h2))).trans (hH j h1 h2)) (fun hH => ?_)
              clear hK K hO hG c0 c1 VX OR VO
              refine wpAnyH_take (i := 9) (v := .pointer (some ⟨go, 1, none⟩)) (by simp only [List.getElem?_toArray, List.getElem?_cons_succ, List.getElem?_cons_zero]; rfl) (by kernel_rfl) (by kernel_rfl) (by kernel_rfl) (by intro _ _ _ h; exact h) (Or.inl ⟨by rfl, fun w hS => by go_simp⟩) hH ?_
              simp only [Act.put, List.setIfInBounds_toArray, List.set_cons_zero, List.set_cons_succ]
              refine wpAnyH_ready (rs := [10]) (by kernel_rfl) (by simp) ?_
              refine AllReadyH.cons (by simp only [List.getElem?_toArray, List.getElem?_cons_succ, List.getElem?_cons_zero]; rfl) (fun K hK => ?_) AllReadyH.nil
              obtain ⟨e0, e1, e2, e3⟩ := var2_facts VO2.out
              go_simp
              have VO3 := hid (cellS1 (y' := .slice (some ⟨g8, 0, none⟩) (acc.length + 1) c8) VO2.out)
              have OR3 := hid (ownsRow_setCell_below OR2.out (a := ⟨go, 1, none⟩) LGB.out (.slice (some ⟨g8, 0, none⟩) (acc.length + 1) c8))
              replace BX := hid (BX.out.setCell (p := ⟨go, 1, none⟩) (Nat.le_refl _) (.slice (some ⟨g8, 0, none⟩) (acc.length + 1) c8))
              replace SX := hid (show bs ≤ (x8.setCell ⟨go, 1, none⟩ (.slice (some ⟨g8, 0, none⟩) (acc.length + 1) c8)).heap.size by rw [size_set1]; exact SX.out)
              refine hK.out _ _ (fun j h1 h2 => (Below.heap_setCell _ _ _ _ (show j ≠ go from fun e => absurd h1 (Nat.not_le_of_lt (e ▸ GLO.out)))).trans (hH j h1 h2)) (fun hH => ?_)
              clear hK K e0 e1 e2 e3 VO2 OR2
              refine wpAnyH_done (by kernel_rfl) ?_ _
              have AN := hid (agr_trans AG.out hH)
              clear hH
              go_wp2
              go_roundw
              case rel => exact ⟨k + 1, _, acc ++ [ks[k]], LL ++ [.int .i64 (ks[k]).1, .slice pu 16 cu], hlt, by go_num, hid (by rw [TK.out, rmv, List.filter_append, ← rmv, ← EA.out]; simp [hid2]), VO3, hid (by rw [List.length_append]; exact OR3.out), hid (el_snoc EL.out OR0.out.1 OBk.out), AN, BX, SX⟩
              case measure => simp [intOf]; omega
            exact AllReadyH.nil
        · have hke : k = ks.length := by omega
          subst hke
          rw [List.take_of_length_le (Nat.le_refl _)] at EA
          have VR2 := hid (var_keep BL.out VR.out LW.out)
          have BE := hid (BB.out.trans (BL.out.mono (by rw [GS.out]; exact BB.out.size)))
          obtain ⟨pv, cq, rfl, -, -, -⟩ := (el_rd EL.out (fun j h1 h2 => AG.out j h1 (Nat.lt_of_lt_of_le h2 (Nat.le_of_lt NW.out.2))) OR.out).parts
          have RE := hid (el_rd EL.out (fun j h1 h2 => AG.out j h1 (Nat.lt_of_lt_of_le h2 (Nat.le_of_lt NW.out.2))) OR.out)
          obtain ⟨o0, o1, -, -⟩ := var2_facts VO.out
          obtain ⟨⟨r0, r1, r2⟩, y0, y1, y2⟩ := w3_facts VR2.out
          have hset := hid (w3_set (x' := .int .i64 0) (y' := .int .i64 rk) (z' := .slice pv acc.length cq) VR2.out)
          have hbel := hid (w3_below (g := g1) (x := .int .i64 0) (y := .int .i64 rk) (z := .slice pv acc.length cq) BE.out LG.out)
          have ALW := hid (fun a (ha : a = g1) => show a < lo by have := GLO.out; have := LW.out; omega)
          have LG1 := hid (show g1 < lo by have := GLO.out; have := LW.out; omega)
          have LG2 := hid (show g1 < bs by have := LGB.out; have := LW.out; omega)
          have AG3 : Hid (Agr lo gw w5 (((wr.setCell ⟨g1, 0, none⟩ (.int .i64 0)).setCell ⟨g1, 1, none⟩ (.int .i64 rk)).setCell ⟨g1, 2, none⟩ (.slice pv acc.length cq))) := hid (fun j h1 h2 => by
            have ne : j ≠ g1 := fun e => absurd LG1.out (Nat.not_lt_of_le (e ▸ h1))
            rw [Below.heap_setCell _ _ _ _ ne, Below.heap_setCell _ _ _ _ ne, Below.heap_setCell _ _ _ _ ne]
            exact AG.out j h1 (Nat.lt_of_lt_of_le h2 (Nat.le_of_lt NW.out.2)))
          have RF := hid (el_far EL.out AG3.out (ownsRow_setCell_below (ownsRow_setCell_below (ownsRow_setCell_below OR.out (a := ⟨g1, 0, none⟩) LG2.out (.int .i64 0)) (a := ⟨g1, 1, none⟩) LG2.out (.int .i64 rk)) (a := ⟨g1, 2, none⟩) LG2.out (.slice pv acc.length cq)) (Nat.le_of_lt (Nat.lt_of_le_of_lt LG.out LG1.out)) (Nat.le_of_lt (Nat.lt_of_le_of_lt LG.out LG2.out)))
          have hnl : ¬ ((ks.length : Int) < (ks.length : Int)) := by omega
          go_wp2
          try simp only [Exit.inBlock, Exit.then]
          exact bodyPost_ret (v := .agg #[.int .i64 0, .int .i64 rk, .slice pv acc.length cq]) (results_cell_row rfl _ _ g1 44 _ _ _ rfl hset.out Try.underlying44 rfl (by kernel_rfl)) rfl ⟨_, rfl, by rw [← EA.out]; exact RF.out, hbel.out⟩
  · obtain ⟨hc, rfl, rfl⟩ := rk_bad HF.out (fun q => h0 (hf.trans q))
    rw [← hf] at hc
    subst hc
    replace hf := hid hf
    have ne : (c != 0) = true := by rw [bne_iff_ne]; exact h0
    replace h0 := hid h0
    obtain ⟨⟨r0, r1, r2⟩, y0, y1, y2⟩ := w3_facts VR.out
    have hset := hid (w3_set (x' := .int .i64 c) (y' := .int .i64 0) (z' := .slice none 0 0) VR.out)
    have hbel := hid (w3_below (g := g1) (x := .int .i64 c) (y := .int .i64 0) (z := .slice none 0 0) BB.out LG.out)
    go_wp2
    try simp only [Exit.inBlock, Exit.then]
    exact bodyPost_ret (v := .agg #[.int .i64 c, .int .i64 0, .slice none 0 0]) (results_cell_row rfl _ _ g1 44 _ _ _ rfl hset.out Try.underlying44 rfl (by kernel_rfl)) rfl ⟨_, rfl, FarK.nil _ _, hbel.out⟩
end Go.Proofs.Ytifgcffifffdnaj.W
