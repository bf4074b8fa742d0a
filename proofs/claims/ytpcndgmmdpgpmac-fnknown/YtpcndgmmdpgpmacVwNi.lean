/-
  The nodes that have a status: what NodesIn of the program answers.
-/
import Derived.Test.YtpcndgmmdpgpmacVwN
import Derived.Test.YtpcndgmmdpgpmacVwV
namespace Go.Proofs.Ytpcndgmmdpgpmac.W
open Go.ChangeShapes Go.WideShapes Go.ChangeAt Go.RowKit
open Go.Proofs.Ytpcndgmmdpgpmac.M

set_option maxHeartbeats 1000000 in
set_option maxRecDepth 100000 in
theorem ini (v : Value) (cs : List Clm) (s : Int) (w : World) (h : RdC w v cs) (hl : cs.length ≤ 1048576) :
    Calls Try.prog 60 #[v, .int .i64 s] w fun e w' => ∃ u, e = .returned (.agg #[.int .i64 (niC cs s), u]) ∧ OZ w' w.heap.size w'.heap.size u (niL cs s) ∧ Below w.heap.size w w' := by
  have H := hid h
  obtain ⟨a, cap, rfl, hc, hm, -⟩ := h.parts
  clear h hc hm
  go_enter Try.func60, Try.ntmps60
  have V := hid (heap_alloc_new w (.cells #[.int .i64 0, .slice none 0 0] 35))
  have BB := hid (below_alloc1 w (.cells #[.int .i64 0, .slice none 0 0] 35))
  go_wp2_with fail
  generalize w.alloc (.cells #[.int .i64 0, .slice none 0 0] 35) = w0 at *
  replace H := hid (H.out.below BB.out)
  have LT := hid (var_lt V.out)
  obtain ⟨g, hg⟩ : ∃ g, g = w.heap.size := ⟨_, rfl⟩
  rw [← hg] at V LT ⊢
  have GL := hid (show w.heap.size ≤ g by omega)
  clear hg
  refine (ivf _ cs _ H.out).mono ?_
  rintro e w1 ⟨rfl, hB⟩
  replace V := hid (var_below hB V.out)
  replace H := hid (H.out.below hB)
  replace BB := hid (BB.out.trans (hB.mono BB.out.size))
  replace LT := hid (Nat.lt_of_lt_of_le LT.out hB.size)
  clear hB
  obtain ⟨t, ht⟩ : ∃ t, t = vF cs := ⟨_, rfl⟩
  rw [← ht]
  by_cases h0 : t = 0
  case neg =>
    have ne : (t != 0) = true := by rw [bne_iff_ne]; exact h0
    have E := hid (show niC cs s = t by rw [niC, if_pos (by rw [← ht]; exact h0), ht])
    have EL := hid (show niL cs s = [] by rw [niL, if_neg (fun q => h0 (by rw [ht]; exact q.1))])
    obtain ⟨z0, z1, z2, z3⟩ := var2_facts V.out
    have HS := hid (var2_set (x' := .int .i64 t) (y' := .slice none 0 0) V.out)
    have HW := hid (below_st2 (.int .i64 t) (.slice none 0 0) BB.out GL.out)
    clear ht h0
    go_wp2
    exact bodyPost_ret (v := .agg #[.int .i64 t, .slice none 0 0]) (results_cell_row rfl _ _ g 35 _ _ _ rfl HS.out Try.underlying35 rfl (by kernel_rfl)) rfl ⟨_, by rw [E.out], by rw [EL.out]; exact OZ.nil _ _ _, HW.out⟩
  subst h0
  replace ht := hid ht
  have V0 := hid (heap_alloc_new w1 (.cells #[.int .i64 s, .int .i64 0, .int .i64 2] 98))
  have B0 := hid (below_alloc1 w1 (.cells #[.int .i64 s, .int .i64 0, .int .i64 2] 98))
  go_wp2_with fail
  refine (within1 _ _ _ _ _ V0.out).mono ?_
  rintro e w2 ⟨rfl, hB⟩
  replace B0 := hid (B0.out.trans (hB.mono B0.out.size))
  replace V := hid (var_below B0.out V.out)
  replace H := hid (H.out.below B0.out)
  replace BB := hid (BB.out.trans (B0.out.mono BB.out.size))
  replace LT := hid (Nat.lt_of_lt_of_le LT.out B0.out.size)
  clear hB V0 B0
  obtain ⟨t, hh⟩ : ∃ t, t = inB s 0 2 := ⟨_, rfl⟩
  rw [← hh]
  cases t
  · have E := hid (show niC cs s = 3 by rw [niC, if_neg (by rw [← ht.out]; simp), ← hh]; rfl)
    have EL := hid (show niL cs s = [] by rw [niL, if_neg (fun q => by rw [← hh] at q; cases q.2)])
    obtain ⟨z0, z1, z2, z3⟩ := var2_facts V.out
    have HS := hid (var2_set (x' := .int .i64 3) (y' := .slice none 0 0) V.out)
    have HW := hid (below_st2 (.int .i64 3) (.slice none 0 0) BB.out GL.out)
    clear ht hh
    go_wp2
    exact bodyPost_ret (v := .agg #[.int .i64 3, .slice none 0 0]) (results_cell_row rfl _ _ g 35 _ _ _ rfl HS.out Try.underlying35 rfl (by kernel_rfl)) rfl ⟨_, by rw [E.out], by rw [EL.out]; exact OZ.nil _ _ _, HW.out⟩
  · have E := hid (show niC cs s = 0 by rw [niC, if_neg (by rw [← ht.out]; simp), ← hh]; rfl)
    have EL := hid (show niL cs s = ndw cs s by rw [niL, if_pos ⟨ht.out.symm, hh.symm⟩])
    clear ht hh
    have LT2 := hid (show g + 1 ≤ w2.heap.size by have := LT.out; omega)
    clear LT
    go_wp2_with fail
    go_loopw [6, 8, 23] (fun s6 s8 i wr => ∃ k : Nat, ∃ u u8 : Value, k ≤ cs.length ∧ i = .int .i64 k ∧ s6 = u ∧ s8 = u8 ∧ Hid (Below w2.heap.size w2 wr) ∧ Hid (OwZ wr w2.heap.size u (ndw (cs.take k) s))) (fun _ _ i _ => cs.length - (intOf i).toNat)
    case atStart => exact ⟨0, _, _, by omega, rfl, rfl, rfl, hid (Below.refl _ _), hid (by simpa [ndw] using OwZ.nil w2 w2.heap.size)⟩
    case round =>
      obtain ⟨k, u, u8, hk, rfl, rfl, rfl, BL, OO⟩ := hrel
      by_cases hlt : k < cs.length
      · obtain ⟨a', cap', e, -, -, hcs⟩ := (H.out.below BL.out).parts
        cases e
        obtain ⟨b, o, rfl, q1⟩ := hcs k hlt
        obtain ⟨c0, c1, c2, c3⟩ := c_cells q1
        have I1 := idx_ci b o cs.length cap k hlt
        have T := hid (ndw_take cs s k hlt)
        have TL := hid (show (ndw (cs.take k) s).length ≤ 1048576 by have := ndw_len (cs.take k) s; rw [List.length_take] at this; omega)
        obtain ⟨M, hM⟩ : ∃ M, M = cs[k] := ⟨_, rfl⟩
        rw [← hM] at c0 c1 c2 c3 T
        clear q1 hcs hM
        obtain ⟨x, hx⟩ : ∃ x, x = ndw (cs.take k) s := ⟨_, rfl⟩
        obtain ⟨y, hy⟩ : ∃ y, y = ndw (cs.take (k + 1)) s := ⟨_, rfl⟩
        rw [← hx] at OO T TL
        rw [← hy] at T
        replace hy := hid hy
        clear hx
        obtain ⟨pu, cu, rfl, -, -, -⟩ := OO.out.rd.parts
        by_cases hs : M.s = s
        · rw [if_pos hs] at T
          have B1 := hid (below_alloc2 wr (.cells #[.int .i64 M.n, .int .i64 M.i, .int .i64 s, .int .i64 M.m] 45) (.cells #[.int .i64 M.n] 2))
          have RN := rdZ_one (wr.alloc (.cells #[.int .i64 M.n, .int .i64 M.i, .int .i64 s, .int .i64 M.m] 45)) M.n 2
          simp only [World.size_alloc] at RN
          replace RN := hid RN
          have LA := hid (show x.length + [M.n].length ≤ 4194304 by have := TL.out; simp; omega)
          have O2 := hid (OO.out.below B1.out)
          have S2 := hid (show w2.heap.size ≤ ((wr.alloc (.cells #[.int .i64 M.n, .int .i64 M.i, .int .i64 s, .int .i64 M.m] 45)).alloc (.cells #[.int .i64 M.n] 2)).heap.size by have := BL.out.size; simp; omega)
          have B2 := hid (BL.out.trans (B1.out.mono BL.out.size))
          rw [hs] at c2
          clear B1 OO
          go_wp2_with (at_builtin; refine list_appZ rfl _ _ rfl _ _ x [M.n] w2.heap.size rfl rfl O2.out RN.out LA.out S2.out ?_; intro v3 w3 hO hG; rw [← T.out] at hO; obtain ⟨pq, cq, rfl, -, -, -⟩ := hO.rd.parts)
          have B3 := hid (B2.out.grown hG S2.out (O2.out.row (Nat.le_refl _)))
          have O3 := hid hO
          clear hO hG c0 c1 c2 c3 I1 O2 S2 B2 RN
          go_roundw
          case rel => exact ⟨k + 1, _, _, hlt, by go_num, rfl, rfl, B3, hid (by rw [← hy.out]; exact O3.out)⟩
          case measure => simp [intOf]; omega
        · rw [if_neg hs] at T
          have B1 := hid (below_alloc1 wr (.cells #[.int .i64 M.n, .int .i64 M.i, .int .i64 M.s, .int .i64 M.m] 45))
          have B2 := hid (BL.out.trans (B1.out.mono BL.out.size))
          have O2 := hid (OO.out.below B1.out)
          go_wp2
          go_roundw
          case rel => exact ⟨k + 1, _, _, hlt, by go_num, rfl, rfl, B2, hid (by rw [← hy.out, T.out]; exact O2.out)⟩
          case measure => simp [intOf]; omega
      · have E2 := hid (ndw_end cs s k (by omega))
        have O3 := hid (show OwZ wr w2.heap.size _ (ndw cs s) by rw [← E2.out]; exact OO.out)
        obtain ⟨pq, cq, rfl, -, -, -⟩ := O3.out.rd.parts
        replace V := hid (var_below BL.out V.out)
        replace BB := hid (BB.out.trans (BL.out.mono BB.out.size))
        generalize ndw cs s = l at *
        obtain ⟨z0, z1, z2, z3⟩ := var2_facts V.out
        have HS := hid (var2_set (x' := .int .i64 0) (y' := .slice pq l.length cq) V.out)
        have HW := hid (below_st2 (.int .i64 0) (.slice pq l.length cq) BB.out GL.out)
        have HO := hid (owZ_st2 O3.out LT2.out (.int .i64 0) (.slice pq l.length cq))
        have HB := hid (show w.heap.size ≤ w2.heap.size by have := GL.out; have := LT2.out; omega)
        clear OO O3 E2
        go_wp2
        exact bodyPost_ret (v := .agg #[.int .i64 0, .slice pq l.length cq]) (results_cell_row rfl _ _ g 35 _ _ _ rfl HS.out Try.underlying35 rfl (by kernel_rfl)) rfl ⟨_, by rw [E.out], by rw [EL.out]; exact OZ.of (HO.out.mono HB.out), HW.out⟩
end Go.Proofs.Ytpcndgmmdpgpmac.W
