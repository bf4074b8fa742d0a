/-
  A ring that loses a key: what the model's RemoveKey answers.
  Keys in a row whose bytes lie wherever they lie, apart from the row and from one variable; and the order of a ring with one key more.
  A row of keys is read, whatever lies below it.
-/
import Derived.Test.YtbfdbicddmffnabGFnTurns2
import Derived.Test.YtbfdbicddmffnabRkF
import Derived.Deep.AppendLies
import Derived.Test.YtbfdbicddmffnabIkF

namespace Go.Proofs.Ytbfdbicddmffnab.W
open Go.ChangeShapes Go.WideShapes Go.ChangeAt Go.RowKit
open Go.Proofs.Ytbfdbicddmffnab.M

theorem cell_agr {lo hi b : Nat} {w w' : World} (h : Agr lo hi w w') (h1 : lo ≤ b) (h2 : b < hi) (i : Nat) : w'.cell? ⟨b, i, none⟩ = w.cell? ⟨b, i, none⟩ := by
  have e := h b h1 h2
  simp only [World.cell?, e]
theorem agr_trans {lo hi : Nat} {a b c : World} (h : Agr lo hi a b) (k : Agr lo hi b c) : Agr lo hi a c := fun j h1 h2 => (k j h1 h2).trans (h j h1 h2)
theorem orow_below {w w' : World} {base n : Nat} {T : TypeId} {m : Nat} {v : Value} {xs : List Value} (h : w.ownsRow base T m v n xs) (hb : Below w.heap.size w w') : w'.ownsRow base T m v n xs := by
  refine ⟨h.1, ?_⟩
  rcases h.2 with hn | ⟨g, cap, cur, rfl, hbb, hgg, rest⟩
  · exact .inl hn
  · exact .inr ⟨g, cap, cur, rfl, hbb, by rw [hb.block g (Array.getElem?_eq_some_iff.1 hgg).1]; exact hgg, rest⟩
/-- The cells L tell the keys acc, their bytes in memory of w between lo and hi. -/
def El (w : World) (lo hi : Nat) (acc : List (Int × List Nat)) (L : List Value) : Prop := ∀ i (h : i < acc.length), ∃ u, L[i * 2]? = some (.int .i64 acc[i].1) ∧ L[i * 2 + 1]? = some u ∧ OB w lo hi u acc[i].2
theorem el_snoc {w : World} {lo hi : Nat} {acc : List (Int × List Nat)} {L : List Value} {x : Int × List Nat} {u : Value} (h : El w lo hi acc L) (hl : L.length = acc.length * 2) (hu : OB w lo hi u x.2) : El w lo hi (acc ++ [x]) (L ++ [.int .i64 x.1, u]) := fun i hi' => by
  rcases Nat.lt_or_ge i acc.length with q | q
  · obtain ⟨u', h1, h2, h3⟩ := h i q
    refine ⟨u', ?_, ?_, ?_⟩
    · rw [List.getElem?_append_left (by omega), List.getElem_append_left q]; exact h1
    · rw [List.getElem?_append_left (by omega)]; exact h2
    · rw [List.getElem_append_left q]; exact h3
  · have e : i = acc.length := by simp at hi'; omega
    subst e
    refine ⟨u, ?_, ?_, ?_⟩
    · rw [List.getElem?_append_right (by omega), List.getElem_append_right (by omega), show acc.length * 2 - L.length = 0 by omega]
      simp
    · rw [List.getElem?_append_right (by omega), show acc.length * 2 + 1 - L.length = 1 by omega]
      rfl
    · rw [List.getElem_append_right (by omega)]
      simpa using hu
theorem el_rd {w w' : World} {lo hi base : Nat} {v : Value} {acc : List (Int × List Nat)} {L : List Value} (h : El w lo hi acc L) (ha : Agr lo hi w w') (hO : w'.ownsRow base 40 2 v acc.length L) : RdK w' v acc := by
  rcases hO.2 with ⟨rfl, h0⟩ | ⟨g, cap, cur, rfl, hb, hg, hn, hm, hs, ht⟩
  · obtain rfl := List.eq_nil_of_length_eq_zero h0
    exact RdK.nil _
  · refine ⟨_, cap, rfl, hn, hm, fun i hi => ?_⟩
    obtain ⟨u, h1, h2, h3⟩ := h i hi
    have hc := fun j hj => World.ownsRow.cellAt hO j hj
    refine ⟨g, 0, u, rfl, ?_, ?_, (h3.agr ha).rd⟩
    · rw [Nat.zero_add, hc (i * 2) (by omega), h1]
    · rw [Nat.zero_add, hc (i * 2 + 1) (by omega), h2]
theorem el_far {w w' : World} {lo hi base b0 : Nat} {v : Value} {acc : List (Int × List Nat)} {L : List Value} (h : El w lo hi acc L) (ha : Agr lo hi w w') (hO : w'.ownsRow base 40 2 v acc.length L) (h1 : b0 ≤ lo) (h2 : b0 ≤ base) : FarK w' b0 v acc := fun w2 hw =>
  el_rd h (w' := w2) (fun j q1 q2 => (hw j (Nat.le_trans h1 q1)).trans (ha j q1 q2)) (base := base) ⟨hO.1, by
    rcases hO.2 with hn | ⟨g, cap, cur, rfl, hbb, hgg, rest⟩
    · exact .inl hn
    · exact .inr ⟨g, cap, cur, rfl, hbb, by rw [hw g (by omega)]; exact hgg, rest⟩⟩
theorem step_appR {ops : Array Oper} {o : Oper} {a : Act} {w : World} {K : Act → World → Prop} {Q : Exit → Act → World → Prop} {E : Prop} (hgd : o.guard = none) (s x : Operand)
    (ho : o.op = .call { callee := .builtin .append, args := #[s, x], argTypes := #[36, 36] }) (v u : Value) (n : Nat) (L : List Value) (base gx cx : Nat) (id' : Int) (hs : a.eval s = v) (hx : a.eval x = .slice (some ⟨gx, 0, none⟩) 1 cx) (h : w.ownsRow base 40 2 v n L) (hb : base ≤ w.heap.size)
    (c0 : w.cell? ⟨gx, 0, none⟩ = some (.int .i64 id')) (c1 : w.cell? ⟨gx, 1, none⟩ = some u) (h1 : u.oneCell' = true) (hn : n ≤ 1048576)
    (hK : ∀ g cap w', w'.ownsRow base 40 2 (.slice (some ⟨g, 0, none⟩) (n + 1) cap) (n + 1) (L ++ [.int .i64 id', u]) → w.grownBy w' v.ownBlock → K (a.put o.dst (.slice (some ⟨g, 0, none⟩) (n + 1) cap)) w') : if Region.wanted o (yielded ops a.tmps) = true then Oper.wp Try.prog o a w K Q else E := by
  have hw : Region.wanted o (yielded ops a.tmps) = true := by simp [Region.wanted, hgd]
  rw [if_pos hw]
  obtain ⟨i0, hi, hz0, hz1, hz2⟩ := info_parts infoKa
  exact wp_append_lies w s x 36 ho base 40 i0 _ 2 32 Try.underlying36 hi hz0 hz1 hz2 rfl (by omega) v n L hs h ⟨gx, 0, none⟩ 1 cx [.int .i64 id', u] hx rfl (fun j x hj => by
    match j, hj with
    | 0, hj => cases hj; exact c0
    | 1, hj => cases hj; exact c1
    | j + 2, hj => simp at hj) (fun x hx => by
    rcases List.mem_cons.1 hx with rfl | hx
    · rfl
    · obtain rfl := List.mem_singleton.1 hx; exact h1) (by omega) (by unfold maxLen; omega) (by omega) hb _ rfl
    (fun g cap w' r1 r2 _ _ => hK g cap w' r1 r2)
set_option maxHeartbeats 4000000 in
set_option maxRecDepth 100000 in
theorem srk (p id' : Int) (v : Value) (ks : List (Int × List Nat)) (c rk : Int) (l : List (Int × List Nat)) (w : World) (h : RdK w v ks) (hF : rmIs p ks id' c rk l) :
    Calls Try.prog 30 #[.agg #[.int .i64 p, v], .int .i64 id'] w fun e w' => ∃ v', e = .returned (.agg #[.int .i64 c, .int .i64 rk, v']) ∧ FarK w' w.heap.size v' l ∧ Below w.heap.size w w' := by
  have H := hid h
  have HF := hid hF
  obtain ⟨a, cap, rfl, -, hcm, -⟩ := h.parts
  clear h hF hcm
  go_enter Try.func30, Try.ntmps30
  go_wp2_with fail
  have VA := hid (heap_alloc2_old w (.cells #[.int .i64 p, .slice a ks.length cap] 38) (.cells #[.int .i64 0, .int .i64 0, .slice none 0 0] 44))
  have VR := hid (heap_alloc2_new w (.cells #[.int .i64 p, .slice a ks.length cap] 38) (.cells #[.int .i64 0, .int .i64 0, .slice none 0 0] 44))
  have BB := hid (below_alloc2 w (.cells #[.int .i64 p, .slice a ks.length cap] 38) (.cells #[.int .i64 0, .int .i64 0, .slice none 0 0] 44))
  replace H := hid (H.out.below BB.out)
  generalize (w.alloc (.cells #[.int .i64 p, .slice a ks.length cap] 38)).alloc (.cells #[.int .i64 0, .int .i64 0, .slice none 0 0] 44) = w0 at *
  obtain ⟨g1, hg1⟩ : ∃ g, g = w.heap.size + 1 := ⟨_, rfl⟩
  obtain ⟨g, hg⟩ : ∃ g, g = w.heap.size := ⟨_, rfl⟩
  have LG := hid (show w.heap.size ≤ g1 by omega)
  rw [← hg1] at VR ⊢
  rw [← hg] at VA ⊢
  clear hg hg1
  refine (srf p _ ks _ H.out).mono ?_
  rintro e w1 ⟨rfl, hB⟩
  replace VA := hid (var_below hB VA.out)
  replace VR := hid (var_below hB VR.out)
  replace H := hid (H.out.below hB)
  replace BB := hid (BB.out.trans (hB.mono BB.out.size))
  clear hB
  obtain ⟨f, hf⟩ : ∃ f, f = rF p ks := ⟨_, rfl⟩
  rw [← hf]
  by_cases h0 : f = 0
  · subst h0
    obtain ⟨k1, k3, k16, -, -⟩ := rF_parts hf.symm
    replace hf := hid hf
    have K16 := hid (fun i hi => (k16 i hi).2)
    clear k16
    go_wp2_with fail
    refine (l4find g p id' _ ks _ VA.out H.out (by omega)).mono ?_
    rintro e w2 ⟨r, rfl, hr, hB⟩
    replace VA := hid (var_below hB VA.out)
    replace VR := hid (var_below hB VR.out)
    replace H := hid (H.out.below hB)
    replace BB := hid (BB.out.trans (hB.mono BB.out.size))
    clear hB
    rcases hr with ⟨rfl, hN⟩ | ⟨i, hi, rfl, he, hn⟩
    · obtain ⟨rfl, rfl, rfl⟩ := rk_none HF.out hf.out.symm hN
      replace hN := hid hN
      obtain ⟨⟨r0, r1, r2⟩, y0, y1, y2⟩ := w3_facts VR.out
      have hset := hid (w3_set (x' := .int .i64 4) (y' := .int .i64 0) (z' := .slice none 0 0) VR.out)
      have hbel := hid (w3_below (g := g1) (x := .int .i64 4) (y := .int .i64 0) (z := .slice none 0 0) BB.out LG.out)
      go_wp2
      try simp only [Exit.inBlock, Exit.then]
      exact bodyPost_ret (v := .agg #[.int .i64 4, .int .i64 0, .slice none 0 0]) (results_cell_row rfl _ _ g1 44 _ _ _ rfl hset.out Try.underlying44 rfl (by kernel_rfl)) rfl ⟨_, rfl, FarK.nil _ _, hbel.out⟩
    · have HH := hid (show Has ks id' from ⟨i, hi, he⟩)
      replace he := hid he
      replace hn := hid hn
      have i0 : ¬ ((i : Int) < 0) := by omega
      obtain ⟨v0, v1, -, -⟩ := var2_facts VA.out
      by_cases hp : id' = p
      · obtain ⟨rfl, rfl, rfl⟩ := rk_own HF.out hf.out.symm HH.out hp
        subst hp
        obtain ⟨⟨r0, r1, r2⟩, y0, y1, y2⟩ := w3_facts VR.out
        have hset := hid (w3_set (x' := .int .i64 8) (y' := .int .i64 0) (z' := .slice none 0 0) VR.out)
        have hbel := hid (w3_below (g := g1) (x := .int .i64 8) (y := .int .i64 0) (z := .slice none 0 0) BB.out LG.out)
        go_wp2
        try simp only [Exit.inBlock, Exit.then]
        exact bodyPost_ret (v := .agg #[.int .i64 8, .int .i64 0, .slice none 0 0]) (results_cell_row rfl _ _ g1 44 _ _ _ rfl hset.out Try.underlying44 rfl (by kernel_rfl)) rfl ⟨_, rfl, FarK.nil _ _, hbel.out⟩
      obtain ⟨rfl, rfl, rfl⟩ := rk_ok HF.out hf.out.symm HH.out hp
      have hpe : (rk == id') = false := by simp; exact fun q => hp q.symm
      have V0 := cell_alloc v0 (.cells #[.int .i64 rk, .slice none 0 0] 38)
      go_wp2_with fail
      clear v0 v1 V0 hpe
      have VO := hid (heap_alloc_new w2 (.cells #[.int .i64 rk, .slice none 0 0] 38))
      have hA := below_alloc1 w2 (.cells #[.int .i64 rk, .slice none 0 0] 38)
      have E3 : (w2.alloc (.cells #[.int .i64 rk, .slice none 0 0] 38)).heap.size = w2.heap.size + 1 := by simp
      replace VA := hid (var_below hA VA.out)
      replace H := hid (H.out.below hA)
      generalize w2.alloc (.cells #[.int .i64 rk, .slice none 0 0] 38) = w3 at *
      have LW := hid (show g1 < w2.heap.size from var_lt VR.out)
      obtain ⟨go, hgo⟩ : ∃ g, g = w2.heap.size := ⟨_, rfl⟩
      rw [← hgo] at VO LW ⊢
      have GS := hid hgo
      have GL := hid (show w3.heap.size = go + 1 by omega)
      have B3 := hid hA
      clear hgo hA E3
      refine (l4copy g rk _ ks _ VA.out H.out K16.out (by omega)).mono ?_
      rintro e w4 ⟨v', rfl, hO, hB⟩
      obtain ⟨gb, cv, rfl, -, -, -⟩ := hO.shape (by omega)
      have VW := heap_alloc_new w4 (.cells #[.int .i64 rk, .slice (some ⟨gb, 0, none⟩) ks.length cv] 38)
      have hA := below_alloc1 w4 (.cells #[.int .i64 rk, .slice (some ⟨gb, 0, none⟩) ks.length cv] 38)
      have E5 : (w4.alloc (.cells #[.int .i64 rk, .slice (some ⟨gb, 0, none⟩) ks.length cv] 38)).heap.size = w4.heap.size + 1 := by simp
      go_wp2_with fail
      have OO := hid (hO.below hA)
      have VO5 := hid (var_below (hB.trans (hA.mono hB.size)) VO.out)
      have B5 := hid (show Below go w2 _ by rw [GS.out]; exact B3.out.trans ((hB.trans (hA.mono hB.size)).mono B3.out.size))
      have SZ := hid hB.size
      generalize w4.alloc (.cells #[.int .i64 rk, .slice (some ⟨gb, 0, none⟩) ks.length cv] 38) = w5 at *
      obtain ⟨lo, hlo⟩ : ∃ g, g = w3.heap.size := ⟨_, rfl⟩
      obtain ⟨gw, hgw⟩ : ∃ g, g = w4.heap.size := ⟨_, rfl⟩
      obtain ⟨bs, hbs⟩ : ∃ g, g = w5.heap.size := ⟨_, rfl⟩
      rw [← hgw] at VW OO SZ ⊢
      rw [← hlo] at OO SZ GL
      have EB := hid (show bs = gw + 1 by omega)
      have GO := hid (show go ≤ lo by have := GL.out; omega)
      have GLO := hid (show go < lo by have := GL.out; omega)
      have NW := hid (show lo ≤ gw ∧ gw < bs from ⟨SZ.out, by have := EB.out; omega⟩)
      have LGB := hid (show go < bs by have := GLO.out; have := NW.out; omega)
      have LB := hid (show lo ≤ bs by have := NW.out; omega)
      have SB := hid (Nat.le_of_eq hbs)
      obtain ⟨L0, q1, q2, q3, -⟩ := OO.out
      have NB := hid (show lo ≤ gb ∧ gb < bs from ⟨(World.ownsRow.lt q1 gb rfl).1, by have := q2 gb rfl; have := EB.out; omega⟩)
      have VW2 := hid VW
      have Q1 := hid q1
      have Q3 := hid q3
      clear hlo hgw hbs hO hB hA VW E5 q1 q2 q3 VO OO VA
      go_loopw [8] (fun s8 wr => ∃ (k : Nat) (v : Value) (acc : List (Int × List Nat)) (LL : List Value), k ≤ ks.length ∧ s8 = .int .i64 k ∧ Hid (acc = rmv id' (ks.take k)) ∧ Hid (wr.heap[go]? = some (.cells #[.int .i64 rk, v] 38)) ∧ Hid (wr.ownsRow bs 40 2 v acc.length LL) ∧ Hid (El w5 lo gw acc LL) ∧ Hid (Agr lo bs w5 wr) ∧ Hid (Below go w2 wr) ∧ Hid (bs ≤ wr.heap.size)) (fun s8 _ => ks.length - (Go.RowKit.intOf s8).toNat)
      case atStart => exact ⟨0, .slice none 0 0, [], [], Nat.zero_le _, rfl, hid rfl, VO5, hid (World.ownsRow_nil _ _ _ _), hid (fun i h => absurd h (Nat.not_lt_zero _)), hid (fun _ _ _ => rfl), B5, SB⟩
      case round =>
        clear VO5 B5
        obtain ⟨k, v, acc, LL, hk, rfl, EA, VO, OR, EL, AG, BL, SG⟩ := hrel
        have AL := hid (show acc.length ≤ ks.length by rw [EA.out]; exact Nat.le_trans (rm_len _ _) (by rw [List.length_take]; omega))
        obtain ⟨w0', w1, -, -⟩ := var2_facts VW2.out
        have w1 := (cell_agr AG.out NW.out.1 NW.out.2 1).trans w1
        by_cases hlt : k < ks.length
        · obtain ⟨u, e0, e1, hOB⟩ : ∃ u, L0[k * 2]? = some (.int .i64 (ks[k]).1) ∧ L0[k * 2 + 1]? = some u ∧ OB w5 lo gw u (ks[k]).2 := by
            obtain ⟨u, h1, h2, h3, -⟩ := Q3.out k hlt
            exact ⟨u, h1, h2, h3⟩
          have b0 := (cell_agr AG.out NB.out.1 NB.out.2 (k * 2)).trans ((World.ownsRow.cellAt Q1.out (k * 2) (by omega)).trans e0)
          have b1 := (cell_agr AG.out NB.out.1 NB.out.2 (k * 2 + 1)).trans ((World.ownsRow.cellAt Q1.out (k * 2 + 1) (by omega)).trans e1)
          obtain ⟨pu, cu, rfl, -, -, -⟩ := hOB.rd.parts
          rw [K16.out k hlt] at b1 hOB
          have OBk := hid hOB
          have TK := hid (List.take_succ_eq_append_getElem hlt)
          have I1 := idx_kc gb 0 ks.length cv k hlt
          rw [Nat.zero_add] at I1
          have k0 : (0 : Int) ≤ (k : Int) := by omega
          have k1' : (k : Int) < (ks.length : Int) := by omega
          clear e0 e1 hOB
          by_cases hd : (ks[k]).1 = id'
          · have HD := hid hd
            rw [hd] at b0
            go_wp2
            go_roundw
            case rel => exact ⟨k + 1, v, acc, LL, hlt, by go_num, hid (by rw [TK.out, rmv, List.filter_append, ← rmv, ← EA.out]; simp [HD.out]), VO, OR, EL, AG, BL, SG⟩
            case measure => simp [Go.RowKit.intOf]; omega
          · have hid2 : ((ks[k]).1 != id') = true := by simpa using hd
            have hid3 := hid hd
            go_wp2_with fail
            refine wp_region_held_drew (S := fun w' => Agr lo bs wr w') (by kernel_rfl) (fun _ _ _ => rfl) (fun hH => ?_)
            replace VO := hid (show wr.drew.heap[go]? = _ from VO.out)
            have OR0 := OR
            replace OR := hid (show wr.drew.ownsRow bs 40 2 v acc.length LL from OR.out)
            have BX := hid (show Below go w2 wr.drew from BL.out.drew)
            have SX := hid (show bs ≤ wr.drew.heap.size from SG.out)
            have SX0 := SX
            generalize wr.drew = x at hH VO OR BX SX SX0 ⊢
            refine wpAnyH_take (i := 0) (v := .pointer (some ⟨go, 1, none⟩)) (by simp only [List.getElem?_toArray, List.getElem?_cons_zero]; rfl) (by kernel_rfl) (by kernel_rfl) (by kernel_rfl) (by intro _ _ _ h; exact h) (Or.inl ⟨by rfl, fun w hS => by go_simp⟩) hH ?_
            simp only [Act.put, List.setIfInBounds_toArray, List.set_cons_zero, List.set_cons_succ]
            refine wpAnyH_take (i := 2) (v := .pointer (some ⟨gw, 1, none⟩)) (by simp only [List.getElem?_toArray, List.getElem?_cons_succ, List.getElem?_cons_zero]; rfl) (by kernel_rfl) (by kernel_rfl) (by kernel_rfl) (by intro _ _ _ h; exact h) (Or.inl ⟨by rfl, fun w hS => by go_simp⟩) hH ?_
            simp only [Act.put, List.setIfInBounds_toArray, List.set_cons_zero, List.set_cons_succ]
            refine wpAnyH_take (i := 3) (v := .slice (some ⟨gb, 0, none⟩) ks.length cv) (by simp only [List.getElem?_toArray, List.getElem?_cons_succ, List.getElem?_cons_zero]; rfl) (by kernel_rfl) (by kernel_rfl) (by kernel_rfl) (by intro _ _ _ h; exact h) (Or.inl ⟨by rfl, fun w hS => by (have y := (cell_agr hS NW.out.1 NW.out.2 _).trans w1; go_simp)⟩) hH ?_
            simp only [Act.put, List.setIfInBounds_toArray, List.set_cons_zero, List.set_cons_succ]
            refine wpAnyH_take (i := 4) (v := .int .i64 (k : Int)) (by simp only [List.getElem?_toArray, List.getElem?_cons_succ, List.getElem?_cons_zero]; rfl) (by kernel_rfl) (by kernel_rfl) (by kernel_rfl) (by intro _ _ _ h; exact h) (Or.inl ⟨by rfl, fun w hS => by go_simp⟩) hH ?_
            simp only [Act.put, List.setIfInBounds_toArray, List.set_cons_zero, List.set_cons_succ]
            refine wpAnyH_take (i := 5) (v := .pointer (some ⟨gb, k * 2, none⟩)) (by simp only [List.getElem?_toArray, List.getElem?_cons_succ, List.getElem?_cons_zero]; rfl) (by kernel_rfl) (by kernel_rfl) (by kernel_rfl) (by intro _ _ _ h; exact h) (Or.inl ⟨by rfl, fun w hS => by (have y := I1 w; go_simp)⟩) hH ?_
            simp only [Act.put, List.setIfInBounds_toArray, List.set_cons_zero, List.set_cons_succ]
            refine wpAnyH_take (i := 6) (v := .agg #[.int .i64 (ks[k]).1, .slice pu 16 cu]) (by simp only [List.getElem?_toArray, List.getElem?_cons_succ, List.getElem?_cons_zero]; rfl) (by kernel_rfl) (by kernel_rfl) (by kernel_rfl) (by intro _ _ _ h; exact h) (Or.inl ⟨by rfl, fun w hS => by (have y0 := (cell_agr hS NB.out.1 NB.out.2 _).trans b0; have y1 := (cell_agr hS NB.out.1 NB.out.2 _).trans b1; go_simp)⟩) hH ?_
            simp only [Act.put, List.setIfInBounds_toArray, List.set_cons_zero, List.set_cons_succ]
            refine wpAnyH_ready (rs := [1, 7]) (by kernel_rfl) (by simp) ?_
            refine AllReadyH.cons (by simp only [List.getElem?_toArray, List.getElem?_cons_succ, List.getElem?_cons_zero]; rfl) (fun K hK => ?_) ?_
            · obtain ⟨q_0, q_1, -, -⟩ := var2_facts VO.out
              go_simp
              refine hK.out _ _ hH (fun hH => ?_)
              clear hK K q_0 q_1
              try simp only [Act.put, List.setIfInBounds_toArray, List.set_cons_zero, List.set_cons_succ]
              refine wpAnyH_ready (rs := [7]) (by kernel_rfl) (by simp) ?_
              refine AllReadyH.cons (by simp only [List.getElem?_toArray, List.getElem?_cons_succ, List.getElem?_cons_zero]; rfl) (fun K hK => ?_) AllReadyH.nil
              go_simp
              have hM := below_alloc1 x (.cells #[.int .i64 (ks[k]).1, .slice pu 16 cu] 40)
              replace VO := hid (var_below hM VO.out)
              replace OR := hid (orow_below OR.out hM)
              have VX := hid (heap_alloc_new x (.cells #[.int .i64 (ks[k]).1, .slice pu 16 cu] 40))
              replace SX := hid (Nat.le_trans SX.out hM.size)
              replace BX := hid (BX.out.trans (hM.mono (Nat.le_trans GO.out (Nat.le_trans LB.out SX0.out))))
              refine hK.out _ _ (fun j h1 h2 => (hM.block j (Nat.lt_of_lt_of_le h2 SX0.out)).trans (hH j h1 h2)) (fun hH => ?_)
              clear hK K hM
              generalize x.alloc (.cells #[.int .i64 (ks[k]).1, .slice pu 16 cu] 40) = x7 at *
              generalize x.heap.size = gx at *
              have SX1 := SX
              refine wpAnyH_ready (rs := [8]) (by kernel_rfl) (by simp) ?_
              refine AllReadyH.cons (by simp only [List.getElem?_toArray, List.getElem?_cons_succ, List.getElem?_cons_zero]; rfl) (fun K hK => ?_) AllReadyH.nil
              obtain ⟨c0, c1, -, -⟩ := var2_facts VX.out
              refine step_appR (by rfl) _ _ (by rfl) _ _ acc.length LL bs gx 1 (ks[k]).1 (by rfl) (by rfl) OR.out SX.out c0 c1 rfl (by have := AL.out; omega) ?_
              intro g8 c8 x8 hO hG
              have OR2 := hid hO
              have VO2 := hid (var_grown hG VO.out (fun e => absurd ((World.ownsRow.lt OR.out _ e.symm).1) (Nat.not_le_of_lt LGB.out)))
              replace BX := hid (BX.out.trans (below_of_grown hG (Nat.le_trans GO.out (Nat.le_trans LB.out SX.out)) (fun j e => Nat.le_trans (Nat.le_of_lt LGB.out) (World.ownsRow.lt OR.out j e).1)))
              replace SX := hid (Nat.le_trans SX.out hG.size)
              refine hK.out _ _ (fun j h1 h2 => (hG.block j (Nat.lt_of_lt_of_le h2 SX1.out) (fun e => absurd ((World.ownsRow.lt OR.out _ e.symm).1) (Nat.not_le_of_lt h2))).trans (hH j h1 h2)) (fun hH => ?_)
              clear hK K hO hG c0 c1 VX OR VO
              refine wpAnyH_take (i := 9) (v := .pointer (some ⟨go, 1, none⟩)) (by simp only [List.getElem?_toArray, List.getElem?_cons_succ, List.getElem?_cons_zero]; rfl) (by kernel_rfl) (by kernel_rfl) (by kernel_rfl) (by intro _ _ _ h; exact h) (Or.inl ⟨by rfl, fun w hS => by go_simp⟩) hH ?_
              simp only [Act.put, List.setIfInBounds_toArray, List.set_cons_zero, List.set_cons_succ]
              refine wpAnyH_ready (rs := [10]) (by kernel_rfl) (by simp) ?_
              refine AllReadyH.cons (by simp only [List.getElem?_toArray, List.getElem?_cons_succ, List.getElem?_cons_zero]; rfl) (fun K hK => ?_) AllReadyH.nil
              obtain ⟨e0, e1, e2, e3⟩ := var2_facts VO2.out
              go_simp
              have VO3 := hid (cellS1 (y' := .slice (some ⟨g8, 0, none⟩) (acc.length + 1) c8) VO2.out)
              have OR3 := hid (ownsRow_setCell_below OR2.out (a := ⟨go, 1, none⟩) LGB.out (.slice (some ⟨g8, 0, none⟩) (acc.length + 1) c8))
              replace BX := hid (BX.out.setCell (p := ⟨go, 1, none⟩) (Nat.le_refl _) (.slice (some ⟨g8, 0, none⟩) (acc.length + 1) c8))
              replace SX := hid (show bs ≤ (x8.setCell ⟨go, 1, none⟩ (.slice (some ⟨g8, 0, none⟩) (acc.length + 1) c8)).heap.size by rw [size_set1]; exact SX.out)
              refine hK.out _ _ (fun j h1 h2 => (Below.heap_setCell _ _ _ _ (show j ≠ go from fun e => absurd h1 (Nat.not_le_of_lt (e ▸ GLO.out)))).trans (hH j h1 h2)) (fun hH => ?_)
              clear hK K e0 e1 e2 e3 VO2 OR2
              refine wpAnyH_done (by kernel_rfl) ?_ _
              have AN := hid (agr_trans AG.out hH)
              clear hH
              go_wp2
              go_roundw
              case rel => exact ⟨k + 1, _, acc ++ [ks[k]], LL ++ [.int .i64 (ks[k]).1, .slice pu 16 cu], hlt, by go_num, hid (by rw [TK.out, rmv, List.filter_append, ← rmv, ← EA.out]; simp [hid2]), VO3, hid (by rw [List.length_append]; exact OR3.out), hid (el_snoc EL.out OR0.out.1 OBk.out), AN, BX, SX⟩
              case measure => simp [Go.RowKit.intOf]; omega
            refine AllReadyH.cons (by simp only [List.getElem?_toArray, List.getElem?_cons_succ, List.getElem?_cons_zero]; rfl) (fun K hK => ?_) ?_
            · go_simp
              have hM := below_alloc1 x (.cells #[.int .i64 (ks[k]).1, .slice pu 16 cu] 40)
              replace VO := hid (var_below hM VO.out)
              replace OR := hid (orow_below OR.out hM)
              have VX := hid (heap_alloc_new x (.cells #[.int .i64 (ks[k]).1, .slice pu 16 cu] 40))
              replace SX := hid (Nat.le_trans SX.out hM.size)
              replace BX := hid (BX.out.trans (hM.mono (Nat.le_trans GO.out (Nat.le_trans LB.out SX0.out))))
              refine hK.out _ _ (fun j h1 h2 => (hM.block j (Nat.lt_of_lt_of_le h2 SX0.out)).trans (hH j h1 h2)) (fun hH => ?_)
              clear hK K hM
              generalize x.alloc (.cells #[.int .i64 (ks[k]).1, .slice pu 16 cu] 40) = x7 at *
              generalize x.heap.size = gx at *
              have SX1 := SX
              refine wpAnyH_ready (rs := [1]) (by kernel_rfl) (by simp) ?_
              refine AllReadyH.cons (by simp only [List.getElem?_toArray, List.getElem?_cons_succ, List.getElem?_cons_zero]; rfl) (fun K hK => ?_) AllReadyH.nil
              obtain ⟨q_0, q_1, -, -⟩ := var2_facts VO.out
              go_simp
              refine hK.out _ _ hH (fun hH => ?_)
              clear hK K q_0 q_1
              try simp only [Act.put, List.setIfInBounds_toArray, List.set_cons_zero, List.set_cons_succ]
              refine wpAnyH_ready (rs := [8]) (by kernel_rfl) (by simp) ?_
              refine AllReadyH.cons (by simp only [List.getElem?_toArray, List.getElem?_cons_succ, List.getElem?_cons_zero]; rfl) (fun K hK => ?_) AllReadyH.nil
              obtain ⟨c0, c1, -, -⟩ := var2_facts VX.out
              refine step_appR (by rfl) _ _ (by rfl) _ _ acc.length LL bs gx 1 (ks[k]).1 (by rfl) (by rfl) OR.out SX.out c0 c1 rfl (by have := AL.out; omega) ?_
              intro g8 c8 x8 hO hG
              have OR2 := hid hO
              have VO2 := hid (var_grown hG VO.out (fun e => absurd ((World.ownsRow.lt OR.out _ e.symm).1) (Nat.not_le_of_lt LGB.out)))
              replace BX := hid (BX.out.trans (below_of_grown hG (Nat.le_trans GO.out (Nat.le_trans LB.out SX.out)) (fun j e => Nat.le_trans (Nat.le_of_lt LGB.out) (World.ownsRow.lt OR.out j e).1)))
              replace SX := hid (Nat.le_trans SX.out hG.size)
              refine hK.out _ _ (fun j h1 h2 => (hG.block j (Nat.lt_of_lt_of_le h2 SX1.out) (fun e => absurd ((World.ownsRow.lt OR.out _ e.symm).1) (Nat.not_le_of_lt h2))).trans (hH j h1 h2)) (fun hH => ?_)
              clear hK K hO hG c0 c1 VX OR VO
              refine wpAnyH_take (i := 9) (v := .pointer (some ⟨go, 1, none⟩)) (by simp only [List.getElem?_toArray, List.getElem?_cons_succ, List.getElem?_cons_zero]; rfl) (by kernel_rfl) (by kernel_rfl) (by kernel_rfl) (by intro _ _ _ h; exact h) (Or.inl ⟨by rfl, fun w hS => by go_simp⟩) hH ?_
              simp only [Act.put, List.setIfInBounds_toArray, List.set_cons_zero, List.set_cons_succ]
              refine wpAnyH_ready (rs := [10]) (by kernel_rfl) (by simp) ?_
              refine AllReadyH.cons (by simp only [List.getElem?_toArray, List.getElem?_cons_succ, List.getElem?_cons_zero]; rfl) (fun K hK => ?_) AllReadyH.nil
              obtain ⟨e0, e1, e2, e3⟩ := var2_facts VO2.out
              go_simp
              have VO3 := hid (cellS1 (y' := .slice (some ⟨g8, 0, none⟩) (acc.length + 1) c8) VO2.out)
              have OR3 := hid (ownsRow_setCell_below OR2.out (a := ⟨go, 1, none⟩) LGB.out (.slice (some ⟨g8, 0, none⟩) (acc.length + 1) c8))
              replace BX := hid (BX.out.setCell (p := ⟨go, 1, none⟩) (Nat.le_refl _) (.slice (some ⟨g8, 0, none⟩) (acc.length + 1) c8))
              replace SX := hid (show bs ≤ (x8.setCell ⟨go, 1, none⟩ (.slice (some ⟨g8, 0, none⟩) (acc.length + 1) c8)).heap.size by rw [size_set1]; exact SX.out)
              refine hK.out _ _ (fun j h1 h2 => (Below.heap_setCell _ _ _ _ (show j ≠ go from fun e => absurd h1 (Nat.not_le_of_lt (e ▸ GLO.out)))).trans (hH j h1 h2)) (fun hH => ?_)
              clear hK K e0 e1 e2 e3 VO2 OR2
              refine wpAnyH_done (by kernel_rfl) ?_ _
              have AN := hid (agr_trans AG.out hH)
              clear hH
              go_wp2
              go_roundw
              case rel => exact ⟨k + 1, _, acc ++ [ks[k]], LL ++ [.int .i64 (ks[k]).1, .slice pu 16 cu], hlt, by go_num, hid (by rw [TK.out, rmv, List.filter_append, ← rmv, ← EA.out]; simp [hid2]), VO3, hid (by rw [List.length_append]; exact OR3.out), hid (el_snoc EL.out OR0.out.1 OBk.out), AN, BX, SX⟩
              case measure => simp [Go.RowKit.intOf]; omega
            exact AllReadyH.nil
        · have hke : k = ks.length := by omega
          subst hke
          rw [List.take_of_length_le (Nat.le_refl _)] at EA
          have VR2 := hid (var_keep BL.out VR.out LW.out)
          have BE := hid (BB.out.trans (BL.out.mono (by rw [GS.out]; exact BB.out.size)))
          obtain ⟨pv, cq, rfl, -, -, -⟩ := (el_rd EL.out (fun j h1 h2 => AG.out j h1 (Nat.lt_of_lt_of_le h2 (Nat.le_of_lt NW.out.2))) OR.out).parts
          have RE := hid (el_rd EL.out (fun j h1 h2 => AG.out j h1 (Nat.lt_of_lt_of_le h2 (Nat.le_of_lt NW.out.2))) OR.out)
          obtain ⟨o0, o1, -, -⟩ := var2_facts VO.out
          obtain ⟨⟨r0, r1, r2⟩, y0, y1, y2⟩ := w3_facts VR2.out
          have hset := hid (w3_set (x' := .int .i64 0) (y' := .int .i64 rk) (z' := .slice pv acc.length cq) VR2.out)
          have hbel := hid (w3_below (g := g1) (x := .int .i64 0) (y := .int .i64 rk) (z := .slice pv acc.length cq) BE.out LG.out)
          have ALW := hid (fun a (ha : a = g1) => show a < lo by have := GLO.out; have := LW.out; omega)
          have LG1 := hid (show g1 < lo by have := GLO.out; have := LW.out; omega)
          have LG2 := hid (show g1 < bs by have := LGB.out; have := LW.out; omega)
          have AG3 : Hid (Agr lo gw w5 (((wr.setCell ⟨g1, 0, none⟩ (.int .i64 0)).setCell ⟨g1, 1, none⟩ (.int .i64 rk)).setCell ⟨g1, 2, none⟩ (.slice pv acc.length cq))) := hid (fun j h1 h2 => by
            have ne : j ≠ g1 := fun e => absurd LG1.out (Nat.not_lt_of_le (e ▸ h1))
            rw [Below.heap_setCell _ _ _ _ ne, Below.heap_setCell _ _ _ _ ne, Below.heap_setCell _ _ _ _ ne]
            exact AG.out j h1 (Nat.lt_of_lt_of_le h2 (Nat.le_of_lt NW.out.2)))
          have RF := hid (el_far EL.out AG3.out (ownsRow_setCell_below (ownsRow_setCell_below (ownsRow_setCell_below OR.out (a := ⟨g1, 0, none⟩) LG2.out (.int .i64 0)) (a := ⟨g1, 1, none⟩) LG2.out (.int .i64 rk)) (a := ⟨g1, 2, none⟩) LG2.out (.slice pv acc.length cq)) (Nat.le_of_lt (Nat.lt_of_le_of_lt LG.out LG1.out)) (Nat.le_of_lt (Nat.lt_of_le_of_lt LG.out LG2.out)))
          have hnl : ¬ ((ks.length : Int) < (ks.length : Int)) := by omega
          go_wp2
          try simp only [Exit.inBlock, Exit.then]
          exact bodyPost_ret (v := .agg #[.int .i64 0, .int .i64 rk, .slice pv acc.length cq]) (results_cell_row rfl _ _ g1 44 _ _ _ rfl hset.out Try.underlying44 rfl (by kernel_rfl)) rfl ⟨_, rfl, by rw [← EA.out]; exact RF.out, hbel.out⟩
  · obtain ⟨hc, rfl, rfl⟩ := rk_bad HF.out (fun q => h0 (hf.trans q))
    rw [← hf] at hc
    subst hc
    replace hf := hid hf
    have ne : (c != 0) = true := by rw [bne_iff_ne]; exact h0
    replace h0 := hid h0
    obtain ⟨⟨r0, r1, r2⟩, y0, y1, y2⟩ := w3_facts VR.out
    have hset := hid (w3_set (x' := .int .i64 c) (y' := .int .i64 0) (z' := .slice none 0 0) VR.out)
    have hbel := hid (w3_below (g := g1) (x := .int .i64 c) (y := .int .i64 0) (z := .slice none 0 0) BB.out LG.out)
    go_wp2
    try simp only [Exit.inBlock, Exit.then]
    exact bodyPost_ret (v := .agg #[.int .i64 c, .int .i64 0, .slice none 0 0]) (results_cell_row rfl _ _ g1 44 _ _ _ rfl hset.out Try.underlying44 rfl (by kernel_rfl)) rfl ⟨_, rfl, FarK.nil _ _, hbel.out⟩
end Go.Proofs.Ytbfdbicddmffnab.W

namespace Go.Proofs.Ytbfdbicddmffnab.W
open Go.ChangeShapes Go.WideShapes Go.ChangeAt Go.RowKit
open Go.Proofs.Ytbfdbicddmffnab.M

theorem insK_cut (x : Int × List Nat) : ∀ (ks : List (Int × List Nat)) (k : Nat), (∀ j (h : j < ks.length), j < k → ¬ x.1 < ks[j].1) → (∀ h : k < ks.length, x.1 < ks[k].1) → k ≤ ks.length → insK x ks = ks.take k ++ x :: ks.drop k
  | [], k, _, _, hk => by
    obtain rfl : k = 0 := by simpa using hk
    rfl
  | y :: r, 0, _, h1, _ => by
    have q := h1 (by simp)
    simp only [List.getElem_cons_zero] at q
    simp [insK, q]
  | y :: r, k + 1, h0, h1, hk => by
    have q := h0 0 (by simp) (by omega)
    simp only [List.getElem_cons_zero] at q
    have := insK_cut x r k (fun j hj hjk => by have := h0 (j + 1) (by simp; omega) (by omega); simpa using this) (fun h => by have := h1 (by simp; omega); simpa using this) (by simpa using hk)
    simp [insK, q, this]
theorem insK_end (x : Int × List Nat) (ks : List (Int × List Nat)) (h : ∀ j (h : j < ks.length), ¬ x.1 < ks[j].1) : insK x ks = ks ++ [x] := by
  have := insK_cut x ks ks.length (fun j hj _ => h j hj) (fun q => absurd q (Nat.lt_irrefl _)) (Nat.le_refl _)
  simpa using this
/-- What stands behind k keys: acc, and whether x is among them. -/
def InsTo (x : Int × List Nat) (ks : List (Int × List Nat)) (k : Nat) (d : Bool) (acc : List (Int × List Nat)) : Prop :=
  (d = false ∧ acc = ks.take k ∧ ∀ j (h : j < ks.length), j < k → ¬ x.1 < ks[j].1) ∨ (d = true ∧ acc ++ ks.drop k = insK x ks)
theorem insTo_zero (x : Int × List Nat) (ks : List (Int × List Nat)) : InsTo x ks 0 false [] := .inl ⟨rfl, rfl, fun _ _ h => absurd h (Nat.not_lt_zero _)⟩
theorem insTo_put {x : Int × List Nat} {ks acc : List (Int × List Nat)} {k : Nat} (h : InsTo x ks k false acc) (hk : k < ks.length) (hx : x.1 < ks[k].1) : InsTo x ks k true (acc ++ [x]) := by
  rcases h with ⟨-, rfl, h0⟩ | ⟨h, -⟩
  · refine .inr ⟨rfl, ?_⟩
    rw [insK_cut x ks k h0 (fun _ => hx) (by omega)]
    simp
  · cases h
theorem insTo_step {x : Int × List Nat} {ks acc : List (Int × List Nat)} {k : Nat} {d : Bool} (h : InsTo x ks k d acc) (hk : k < ks.length) (hx : d = true ∨ ¬ x.1 < ks[k].1) : InsTo x ks (k + 1) d (acc ++ [ks[k]]) := by
  rcases h with ⟨rfl, rfl, h0⟩ | ⟨rfl, h⟩
  · refine .inl ⟨rfl, (List.take_succ_eq_append_getElem hk).symm, fun j hj hjk => ?_⟩
    by_cases e : j = k
    · subst e
      rcases hx with q | q
      · cases q
      · exact q
    · exact h0 j hj (by omega)
  · refine .inr ⟨rfl, ?_⟩
    rw [List.append_assoc, List.singleton_append, List.getElem_cons_drop]
    exact h
theorem insTo_done {x : Int × List Nat} {ks acc : List (Int × List Nat)} (h : InsTo x ks ks.length true acc) : acc = insK x ks := by
  rcases h with ⟨q, -⟩ | ⟨-, h⟩
  · cases q
  · simpa using h
theorem insTo_open {x : Int × List Nat} {ks acc : List (Int × List Nat)} (h : InsTo x ks ks.length false acc) : acc ++ [x] = insK x ks := by
  rcases h with ⟨-, rfl, h0⟩ | ⟨q, -⟩
  · rw [insK_end x ks fun j hj => h0 j hj hj]
    simp
  · cases q
theorem insTo_len {x : Int × List Nat} {ks acc : List (Int × List Nat)} {k : Nat} {d : Bool} (h : InsTo x ks k d acc) (hk : k ≤ ks.length) : acc.length ≤ ks.length + 1 := by
  rcases h with ⟨-, rfl, -⟩ | ⟨-, h⟩
  · rw [List.length_take]; omega
  · have := congrArg List.length h
    rw [insK_len] at this
    simp at this
    omega
/-- The bytes l of u lie in the block b. -/
def Li (w : World) (u : Value) (b : Nat) (l : List Nat) : Prop := Rd w u l ∧ b < w.heap.size ∧ ∃ o n c, u = .slice (some ⟨b, o, none⟩) n c
theorem Li.move {w w' : World} {u : Value} {b : Nat} {l : List Nat} (h : Li w u b l) (he : w'.heap[b]? = w.heap[b]?) (hs : w.heap.size ≤ w'.heap.size) : Li w' u b l := by
  obtain ⟨⟨a, cap, e, hn, hm, hc⟩, hb, o, n, c, rfl⟩ := h
  refine ⟨⟨a, cap, e, hn, hm, fun i hi => ?_⟩, Nat.lt_of_lt_of_le hb hs, o, n, c, rfl⟩
  obtain ⟨b', o', rfl, hcc⟩ := hc i hi
  simp only [Value.slice.injEq, Option.some.injEq, Addr.mk.injEq] at e
  obtain ⟨⟨rfl, -, -⟩, -, -⟩ := e
  refine ⟨b, o', rfl, ?_⟩
  rw [← hcc]
  simp only [World.cell?, he]
/-- The cells L tell the keys acc; their bytes lie in blocks from lo on, apart from go and from the row v. -/
def Ep (w : World) (v : Value) (lo go : Nat) (acc : List (Int × List Nat)) (L : List Value) : Prop := ∀ i (h : i < acc.length), ∃ u b, L[i * 2]? = some (.int .i64 acc[i].1) ∧ L[i * 2 + 1]? = some u ∧ Li w u b acc[i].2 ∧ lo ≤ b ∧ b ≠ go ∧ v.ownBlock ≠ some b
theorem Ep.nil (w : World) (v : Value) (lo go : Nat) (L : List Value) : Ep w v lo go [] L := fun _ h => absurd h (Nat.not_lt_zero _)
theorem Ep.move {w w' : World} {v v' : Value} {lo go : Nat} {acc : List (Int × List Nat)} {L : List Value} (h : Ep w v lo go acc L) (he : ∀ b, lo ≤ b → b < w.heap.size → b ≠ go → v.ownBlock ≠ some b → w'.heap[b]? = w.heap[b]?) (hs : w.heap.size ≤ w'.heap.size) (hv : ∀ b, v'.ownBlock = some b → v.ownBlock = some b ∨ w.heap.size ≤ b) : Ep w' v' lo go acc L := fun i hi => by
  obtain ⟨u, b, h1, h2, h3, h4, h5, h6⟩ := h i hi
  refine ⟨u, b, h1, h2, h3.move (he b h4 h3.2.1 h5 h6) hs, h4, h5, fun q => ?_⟩
  rcases hv b q with q | q
  · exact h6 q
  · exact absurd h3.2.1 (Nat.not_lt_of_le q)
theorem Ep.snoc {w : World} {v : Value} {lo go b : Nat} {acc : List (Int × List Nat)} {L : List Value} {x : Int × List Nat} {u : Value} (h : Ep w v lo go acc L) (hl : L.length = acc.length * 2) (hu : Li w u b x.2) (h4 : lo ≤ b) (h5 : b ≠ go) (h6 : v.ownBlock ≠ some b) : Ep w v lo go (acc ++ [x]) (L ++ [.int .i64 x.1, u]) := fun i hi' => by
  rcases Nat.lt_or_ge i acc.length with q | q
  · obtain ⟨u', b', h1, h2, h3⟩ := h i q
    refine ⟨u', b', ?_, ?_, ?_⟩
    · rw [List.getElem?_append_left (by omega), List.getElem_append_left q]; exact h1
    · rw [List.getElem?_append_left (by omega)]; exact h2
    · rw [List.getElem_append_left q]; exact h3
  · have e : i = acc.length := by simp at hi'; omega
    subst e
    refine ⟨u, b, ?_, ?_, ?_, h4, h5, h6⟩
    · rw [List.getElem?_append_right (by omega), List.getElem_append_right (by omega), show acc.length * 2 - L.length = 0 by omega]
      simp
    · rw [List.getElem?_append_right (by omega), show acc.length * 2 + 1 - L.length = 1 by omega]
      rfl
    · rw [List.getElem_append_right (by omega)]
      simpa using hu
theorem Ep.rd {w : World} {lo go base : Nat} {v : Value} {acc : List (Int × List Nat)} {L : List Value} (h : Ep w v lo go acc L) (hO : w.ownsRow base 40 2 v acc.length L) : RdK w v acc := by
  rcases hO.2 with ⟨rfl, h0⟩ | ⟨g, cap, cur, rfl, hb, hg, hn, hm, hs, ht⟩
  · obtain rfl := List.eq_nil_of_length_eq_zero h0
    exact RdK.nil _
  · refine ⟨_, cap, rfl, hn, hm, fun i hi => ?_⟩
    obtain ⟨u, b, h1, h2, h3, -⟩ := h i hi
    have hc := fun j hj => World.ownsRow.cellAt hO j hj
    refine ⟨g, 0, u, rfl, ?_, ?_, h3.1⟩
    · rw [Nat.zero_add, hc (i * 2) (by omega), h1]
    · rw [Nat.zero_add, hc (i * 2 + 1) (by omega), h2]
/-- A row of keys that is its own from bs on, with their bytes elsewhere. -/
def RowE (w : World) (bs : Nat) (v : Value) (lo go : Nat) (acc : List (Int × List Nat)) (L : List Value) : Prop := w.ownsRow bs 40 2 v acc.length L ∧ Ep w v lo go acc L ∧ bs ≤ w.heap.size
/-- Bytes that may stand in such a row. -/
def Nk (w : World) (v : Value) (lo go : Nat) (u : Value) (l : List Nat) : Prop := ∃ b, Li w u b l ∧ lo ≤ b ∧ b ≠ go ∧ v.ownBlock ≠ some b
theorem RowE.nil {w : World} {bs : Nat} (lo go : Nat) (h : bs ≤ w.heap.size) : RowE w bs (.slice none 0 0) lo go [] [] := ⟨World.ownsRow_nil _ _ _ _, Ep.nil _ _ _ _ _, h⟩
theorem RowE.below {w w' : World} {bs lo go : Nat} {v : Value} {acc : List (Int × List Nat)} {L : List Value} (h : RowE w bs v lo go acc L) (hb : Below w.heap.size w w') : RowE w' bs v lo go acc L :=
  ⟨orow_below h.1 hb, h.2.1.move (fun b _ hs _ _ => hb.block b hs) hb.size (fun _ e => .inl e), Nat.le_trans h.2.2 hb.size⟩
theorem Nk.below {w w' : World} {lo go : Nat} {v u : Value} {l : List Nat} (h : Nk w v lo go u l) (hb : Below w.heap.size w w') : Nk w' v lo go u l := by
  obtain ⟨b, h1, h2⟩ := h
  exact ⟨b, h1.move (hb.block b h1.2.1) hb.size, h2⟩
theorem Nk.one {w : World} {lo go : Nat} {v u : Value} {l : List Nat} (h : Nk w v lo go u l) : u.oneCell' = true := by
  obtain ⟨b, ⟨-, -, o, n, c, rfl⟩, -⟩ := h
  rfl
theorem Nk.rd {w : World} {lo go : Nat} {v u : Value} {l : List Nat} (h : Nk w v lo go u l) : Rd w u l := by
  obtain ⟨b, h1, -⟩ := h
  exact h1.1
theorem Nk.own {w w' : World} {bs lo go : Nat} {v u : Value} {acc : List (Int × List Nat)} {L : List Value} {l : List Nat} (h : RowE w bs v lo go acc L) (hu : Own w' w.heap.size u l) (h0 : 0 < l.length) (h1 : lo ≤ bs) (h2 : go < bs) : Nk w' v lo go u l := by
  rcases hu.2 with ⟨rfl, q⟩ | ⟨g, cap, cur, rfl, hb, hg, -⟩
  · omega
  · have := h.2.2
    exact ⟨g, ⟨hu.rd, var_lt hg, 0, _, _, rfl⟩, by omega, by omega, fun e => by have := (World.ownsRow.lt h.1 g e).2; omega⟩
theorem Nk.ob {w : World} {bs lo hi go : Nat} {v u : Value} {acc : List (Int × List Nat)} {L : List Value} {l : List Nat} (h : RowE w bs v lo go acc L) (hu : OB w lo hi u l) (h0 : 0 < l.length) (h1 : hi ≤ go) (h2 : go < bs) : Nk w v lo go u l := by
  obtain ⟨⟨T, hu⟩, hl⟩ := hu
  have hr : Rd w u l := Owx.rd ⟨T, hu⟩
  rcases hu.2 with ⟨rfl, q⟩ | ⟨g, cap, cur, rfl, hb, hg, -⟩
  · omega
  · have hh := hl g rfl
    exact ⟨g, ⟨hr, var_lt hg, 0, _, _, rfl⟩, hb, by omega, fun e => by have := (World.ownsRow.lt h.1 g e).1; omega⟩
theorem RowE.app {w w' : World} {bs lo go g cap : Nat} {v u : Value} {acc : List (Int × List Nat)} {L : List Value} {x : Int × List Nat} (h : RowE w bs v lo go acc L) (hu : Nk w v lo go u x.2)
    (ho : w'.ownsRow bs 40 2 (.slice (some ⟨g, 0, none⟩) (acc.length + 1) cap) (acc.length + 1) (L ++ [.int .i64 x.1, u])) (hG : w.grownBy w' v.ownBlock) (hg : v.ownBlock = some g ∨ g = w.heap.size) :
    RowE w' bs (.slice (some ⟨g, 0, none⟩) (acc.length + 1) cap) lo go (acc ++ [x]) (L ++ [.int .i64 x.1, u]) := by
  obtain ⟨b, h1, h2, h3, h4⟩ := hu
  refine ⟨by rw [List.length_append]; exact ho, ?_, Nat.le_trans h.2.2 hG.size⟩
  exact (h.2.1.snoc h.1.1 h1 h2 h3 h4).move (fun b _ hs _ hv => hG.block b hs (fun e => hv e.symm)) hG.size (fun b e => by
    have e : g = b := Option.some.inj e
    subst e
    rcases hg with q | q
    · exact .inl q
    · exact .inr (by omega))
theorem RowE.set {w : World} {bs lo go i : Nat} {v : Value} {acc : List (Int × List Nat)} {L : List Value} (h : RowE w bs v lo go acc L) (hg : go < bs) (x : Value) : RowE (w.setCell ⟨go, i, none⟩ x) bs v lo go acc L :=
  ⟨ownsRow_setCell_below h.1 (a := ⟨go, i, none⟩) hg x, h.2.1.move (fun b _ _ hb _ => Below.heap_setCell _ _ _ _ hb) (by rw [size_set1]; exact Nat.le_refl _) (fun _ e => .inl e), by rw [size_set1]; exact h.2.2⟩
theorem RowE.low {w : World} {bs lo go g1 i : Nat} {v : Value} {acc : List (Int × List Nat)} {L : List Value} (h : RowE w bs v lo go acc L) (hg : g1 < bs) (hl : g1 < lo) (x : Value) : RowE (w.setCell ⟨g1, i, none⟩ x) bs v lo go acc L :=
  ⟨ownsRow_setCell_below h.1 (a := ⟨g1, i, none⟩) hg x, h.2.1.move (fun b hb _ _ _ => Below.heap_setCell _ _ _ _ (show b ≠ g1 by omega)) (by rw [size_set1]; exact Nat.le_refl _) (fun _ e => .inl e), by rw [size_set1]; exact h.2.2⟩
theorem RowE.rd {w : World} {bs lo go : Nat} {v : Value} {acc : List (Int × List Nat)} {L : List Value} (h : RowE w bs v lo go acc L) : RdK w v acc := h.2.1.rd h.1
/-- An append to a row of keys, and where the row lies behind it. -/
theorem step_appL {ops : Array Oper} {o : Oper} {a : Act} {w : World} {K : Act → World → Prop} {Q : Exit → Act → World → Prop} {E : Prop} (hgd : o.guard = none) (s x : Operand)
    (ho : o.op = .call { callee := .builtin .append, args := #[s, x], argTypes := #[36, 36] }) (v u : Value) (n : Nat) (L : List Value) (base gx cx : Nat) (id' : Int) (hs : a.eval s = v) (hx : a.eval x = .slice (some ⟨gx, 0, none⟩) 1 cx) (h : w.ownsRow base 40 2 v n L) (hb : base ≤ w.heap.size)
    (c0 : w.cell? ⟨gx, 0, none⟩ = some (.int .i64 id')) (c1 : w.cell? ⟨gx, 1, none⟩ = some u) (h1 : u.oneCell' = true) (hn : n ≤ 1048576)
    (hK : ∀ g cap w', w'.ownsRow base 40 2 (.slice (some ⟨g, 0, none⟩) (n + 1) cap) (n + 1) (L ++ [.int .i64 id', u]) → w.grownBy w' v.ownBlock → (v.ownBlock = some g ∨ g = w.heap.size) → g < w'.heap.size → K (a.put o.dst (.slice (some ⟨g, 0, none⟩) (n + 1) cap)) w') : if Region.wanted o (yielded ops a.tmps) = true then Oper.wp Try.prog o a w K Q else E := by
  have hw : Region.wanted o (yielded ops a.tmps) = true := by simp [Region.wanted, hgd]
  rw [if_pos hw]
  obtain ⟨i0, hi, hz0, hz1, hz2⟩ := info_parts infoKa
  exact wp_append_lies w s x 36 ho base 40 i0 _ 2 32 Try.underlying36 hi hz0 hz1 hz2 rfl (by omega) v n L hs h ⟨gx, 0, none⟩ 1 cx [.int .i64 id', u] hx rfl (fun j x hj => by
    match j, hj with
    | 0, hj => cases hj; exact c0
    | 1, hj => cases hj; exact c1
    | j + 2, hj => simp at hj) (fun x hx => by
    rcases List.mem_cons.1 hx with rfl | hx
    · rfl
    · obtain rfl := List.mem_singleton.1 hx; exact h1) (by omega) (by unfold maxLen; omega) (by omega) hb _ rfl
    (fun g cap w' r1 r2 r3 r4 => hK g cap w' r1 r2 r3 r4)
end Go.Proofs.Ytbfdbicddmffnab.W

namespace Go.Proofs.Ytbfdbicddmffnab.W
open Go.ChangeShapes Go.WideShapes Go.ChangeAt Go.RowKit
open Go.Proofs.Ytbfdbicddmffnab.M
theorem Li.at {w w' : World} {u : Value} {b : Nat} {l : List Nat} (h : Li w u b l) (he : w'.heap[b]? = w.heap[b]?) : Rd w' u l := by
  obtain ⟨⟨a, cap, e, hn, hm, hc⟩, hb, o, n, c, rfl⟩ := h
  refine ⟨a, cap, e, hn, hm, fun i hi => ?_⟩
  obtain ⟨b', o', rfl, hcc⟩ := hc i hi
  simp only [Value.slice.injEq, Option.some.injEq, Addr.mk.injEq] at e
  obtain ⟨⟨rfl, -, -⟩, -, -⟩ := e
  refine ⟨b, o', rfl, ?_⟩
  rw [← hcc]
  simp only [World.cell?, he]
theorem RowE.far {w : World} {bs lo go base : Nat} {v : Value} {acc : List (Int × List Nat)} {L : List Value} (h : RowE w bs v lo go acc L) (h1 : base ≤ lo) (h2 : base ≤ bs) : FarK w base v acc := fun w' hw => by
  have hO : w'.ownsRow bs 40 2 v acc.length L := by
    refine ⟨h.1.1, ?_⟩
    rcases h.1.2 with hn | ⟨g, cap, cur, rfl, hbb, hgg, rest⟩
    · exact .inl hn
    · exact .inr ⟨g, cap, cur, rfl, hbb, by rw [hw g (by omega)]; exact hgg, rest⟩
  rcases hO.2 with ⟨rfl, h0⟩ | ⟨g, cap, cur, rfl, hb, hg, hn, hm, hs, ht⟩
  · obtain rfl := List.eq_nil_of_length_eq_zero h0
    exact RdK.nil _
  · refine ⟨_, cap, rfl, hn, hm, fun i hi => ?_⟩
    obtain ⟨u, b, e1, e2, e3, e4, -⟩ := h.2.1 i hi
    have hc := fun j hj => World.ownsRow.cellAt hO j hj
    refine ⟨g, 0, u, rfl, ?_, ?_, e3.at (hw b (by omega))⟩
    · rw [Nat.zero_add, hc (i * 2) (by omega), e1]
    · rw [Nat.zero_add, hc (i * 2 + 1) (by omega), e2]
end Go.Proofs.Ytbfdbicddmffnab.W
