/-
  The nodes that have a status: what l8With and NodesIn of the model and NodesIn of the program answer.
-/
import Derived.Test.YtpcndgmmdpgpmacVwS
import Derived.Test.YtpcndgmmdpgpmacVwV
import Derived.Test.YtpcndgmmdpgpmacAppZ
namespace Go.Proofs.Ytpcndgmmdpgpmac.W
open Go.ChangeShapes Go.WideShapes Go.ChangeAt Go.RowKit
open Go.Proofs.Ytpcndgmmdpgpmac.M

theorem owZ_lit {w : World} {base g : Nat} (h : w.heap[g]? = some (.cells #[] 2)) (hb : base ≤ g) : OwZ w base (.slice (some ⟨g, 0, none⟩) 0 0) [] :=
  ⟨rfl, .inr ⟨g, 0, #[], rfl, hb, h, Nat.le_refl _, Nat.zero_le _, rfl, rfl⟩⟩
theorem ndw_take (cs : List Clm) (s : Int) (k : Nat) (hk : k < cs.length) : ndw (cs.take (k + 1)) s = if cs[k].s = s then ndw (cs.take k) s ++ [cs[k].n] else ndw (cs.take k) s := by
  unfold ndw
  rw [List.take_succ_eq_append_getElem hk, List.filter_append]
  by_cases h : cs[k].s = s
  · have e : (cs[k].s == s) = true := by simpa using h
    rw [if_pos h]
    simp [List.filter, e]
  · have e : (cs[k].s == s) = false := by simpa using h
    rw [if_neg h]
    simp [List.filter, e]
theorem ndw_len (cs : List Clm) (s : Int) : (ndw cs s).length ≤ cs.length := by
  unfold ndw
  rw [List.length_map]
  exact List.length_filter_le _ _
theorem ndw_end (cs : List Clm) (s : Int) (k : Nat) (h : cs.length ≤ k) : ndw (cs.take k) s = ndw cs s := by rw [List.take_of_length_le h]
theorem below_st2 {B : Nat} {w w' : World} {g : Nat} (x y : Value) (h : Below B w w') (hg : B ≤ g) : Below B w ((w'.setCell ⟨g, 0, none⟩ x).setCell ⟨g, 1, none⟩ y) :=
  (h.setCell (p := ⟨g, 0, none⟩) hg x).setCell (p := ⟨g, 1, none⟩) hg y
theorem owZ_st2 {w : World} {base g : Nat} {v : Value} {l : List Int} (h : OwZ w base v l) (hg : g < base) (x y : Value) : OwZ ((w.setCell ⟨g, 0, none⟩ x).setCell ⟨g, 1, none⟩ y) base v l :=
  ownsRow_setCell_below (ownsRow_setCell_below h (a := ⟨g, 0, none⟩) hg x) (a := ⟨g, 1, none⟩) hg y
set_option maxHeartbeats 2000000 in
set_option maxRecDepth 100000 in
theorem s8w (v : Value) (cs : List Clm) (s : Int) (w : World) (h : RdC w v cs) (hl : cs.length ≤ 1048576) :
    Calls Try.prog 112 #[v, .int .i64 s] w fun e w' => ∃ u, e = .returned u ∧ OwZ w' w.heap.size u (ndw cs s) ∧ Below w.heap.size w w' := by
  have H := hid h
  obtain ⟨a, cap, rfl, -, -, -⟩ := h.parts
  clear h
  have V0 := heap_alloc_new w (.cells #[] 2)
  have B0 := hid (below_alloc1 w (.cells #[] 2))
  have O0 := hid (owZ_lit V0 (Nat.le_refl _))
  clear V0
  go_enter Try.func112, Try.ntmps112
  go_wp2_with fail
  go_loopw [5, 6] (fun s5 i wr => ∃ k : Nat, ∃ u : Value, k ≤ cs.length ∧ i = .int .i64 k ∧ s5 = u ∧ Hid (Below w.heap.size w wr) ∧ Hid (OwZ wr w.heap.size u (ndw (cs.take k) s))) (fun _ i _ => cs.length - (intOf i).toNat)
  case atStart => exact ⟨0, _, by omega, rfl, rfl, B0, hid (by simpa [ndw] using O0.out)⟩
  case round =>
    clear B0 O0
    obtain ⟨k, u, hk, rfl, rfl, BL, OO⟩ := hrel
    by_cases hlt : k < cs.length
    · obtain ⟨a', cap', e, -, -, hcs⟩ := (H.out.below BL.out).parts
      cases e
      obtain ⟨b, o, rfl, q1⟩ := hcs k hlt
      obtain ⟨c0, c1, c2, c3⟩ := c_cells q1
      have I1 := idx_ci b o cs.length cap k hlt
      have T := hid (ndw_take cs s k hlt)
      have TL := hid (show (ndw (cs.take k) s).length ≤ 1048576 by have := ndw_len (cs.take k) s; rw [List.length_take] at this; omega)
      obtain ⟨M, hM⟩ : ∃ M, M = cs[k] := ⟨_, rfl⟩
      rw [← hM] at c0 c1 c2 c3 T
      clear q1 hcs hM
      obtain ⟨x, hx⟩ : ∃ x, x = ndw (cs.take k) s := ⟨_, rfl⟩
      obtain ⟨y, hy⟩ : ∃ y, y = ndw (cs.take (k + 1)) s := ⟨_, rfl⟩
      rw [← hx] at OO T TL
      rw [← hy] at T
      replace hy := hid hy
      clear hx
      obtain ⟨pu, cu, rfl, -, -, -⟩ := OO.out.rd.parts
      by_cases hs : M.s = s
      · rw [if_pos hs] at T
        have B1 := hid (below_alloc1 wr (.cells #[.int .i64 M.n] 2))
        have RN := hid (rdZ_one wr M.n 2)
        have LA := hid (show x.length + [M.n].length ≤ 4194304 by have := TL.out; simp; omega)
        have O2 := hid (OO.out.below B1.out)
        have S2 := hid (show w.heap.size ≤ (wr.alloc (.cells #[.int .i64 M.n] 2)).heap.size by have := BL.out.size; simp; omega)
        have B2 := hid (BL.out.trans (B1.out.mono BL.out.size))
        clear B1 OO
        go_wp2_with (at_builtin; refine list_appZ rfl _ _ rfl _ _ x [M.n] w.heap.size rfl rfl O2.out RN.out LA.out S2.out ?_; intro v3 w3 hO hG; rw [← T.out] at hO; obtain ⟨pq, cq, rfl, -, -, -⟩ := hO.rd.parts)
        have B3 := hid (B2.out.grown hG S2.out (O2.out.row (Nat.le_refl _)))
        have O3 := hid hO
        clear hO hG c0 c1 c2 c3 I1 O2 S2 B2 RN
        go_roundw
        case rel => exact ⟨k + 1, _, hlt, by go_num, rfl, B3, hid (by rw [← hy.out]; exact O3.out)⟩
        case measure => simp [intOf]; omega
      · rw [if_neg hs] at T
        go_wp2
        go_roundw
        case rel => exact ⟨k + 1, _, hlt, by go_num, rfl, BL, hid (by rw [← hy.out, T.out]; exact OO.out)⟩
        case measure => simp [intOf]; omega
    · have E := hid (ndw_end cs s k (by omega))
      obtain ⟨pu, cu, rfl, -, -, -⟩ := OO.out.rd.parts
      have O3 := hid (show OwZ wr w.heap.size _ (ndw cs s) by rw [← E.out]; exact OO.out)
      go_wp2
      go_ret
      exact ⟨_, rfl, O3.out, BL.out⟩
/-- What is told of the nodes that have a status. -/
def niC (cs : List Clm) (s : Int) : Int := if vF cs ≠ 0 then vF cs else if inB s 0 2 then 0 else 3
def niL (cs : List Clm) (s : Int) : List Int := if vF cs = 0 ∧ inB s 0 2 = true then ndw cs s else []
set_option maxHeartbeats 1000000 in
set_option maxRecDepth 100000 in
theorem sni (v : Value) (cs : List Clm) (s : Int) (w : World) (h : RdC w v cs) (hl : cs.length ≤ 1048576) :
    Calls Try.prog 63 #[v, .int .i64 s] w fun e w' => ∃ u, e = .returned (.agg #[.int .i64 (niC cs s), u]) ∧ RdZ w' u (niL cs s) ∧ Below w.heap.size w w' := by
  have H := hid h
  obtain ⟨a, cap, rfl, hc, hm, -⟩ := h.parts
  clear h hc hm
  go_enter Try.func63, Try.ntmps63
  have V := hid (heap_alloc_new w (.cells #[.int .i64 0, .slice none 0 0] 35))
  have BB := hid (below_alloc1 w (.cells #[.int .i64 0, .slice none 0 0] 35))
  go_wp2_with fail
  generalize w.alloc (.cells #[.int .i64 0, .slice none 0 0] 35) = w0 at *
  replace H := hid (H.out.below BB.out)
  have LT := hid (var_lt V.out)
  obtain ⟨g, hg⟩ : ∃ g, g = w.heap.size := ⟨_, rfl⟩
  rw [← hg] at V LT ⊢
  have GL := hid (show w.heap.size ≤ g by omega)
  clear hg
  refine (svf _ cs _ H.out).mono ?_
  rintro e w1 ⟨rfl, hB⟩
  replace V := hid (var_below hB V.out)
  replace H := hid (H.out.below hB)
  replace BB := hid (BB.out.trans (hB.mono BB.out.size))
  replace LT := hid (Nat.lt_of_lt_of_le LT.out hB.size)
  clear hB
  obtain ⟨t, ht⟩ : ∃ t, t = vF cs := ⟨_, rfl⟩
  rw [← ht]
  by_cases h0 : t = 0
  case neg =>
    have ne : (t != 0) = true := by rw [bne_iff_ne]; exact h0
    have E := hid (show niC cs s = t by rw [niC, if_pos (by rw [← ht]; exact h0), ht])
    have EL := hid (show niL cs s = [] by rw [niL, if_neg (fun q => h0 (by rw [ht]; exact q.1))])
    obtain ⟨z0, z1, z2, z3⟩ := var2_facts V.out
    have HS := hid (var2_set (x' := .int .i64 t) (y' := .slice none 0 0) V.out)
    have HW := hid (below_st2 (.int .i64 t) (.slice none 0 0) BB.out GL.out)
    clear ht h0
    go_wp2
    exact bodyPost_ret (v := .agg #[.int .i64 t, .slice none 0 0]) (results_cell_row rfl _ _ g 35 _ _ _ rfl HS.out Try.underlying35 rfl (by kernel_rfl)) rfl ⟨_, by rw [E.out], by rw [EL.out]; exact RdZ.nil _, HW.out⟩
  subst h0
  replace ht := hid ht
  go_wp2_with fail
  refine (l1in _ _ _ _).mono ?_
  rintro e w2 ⟨rfl, hw2⟩
  subst hw2
  obtain ⟨t, hh⟩ : ∃ t, t = inB s 0 2 := ⟨_, rfl⟩
  rw [← hh]
  cases t
  · have E := hid (show niC cs s = 3 by rw [niC, if_neg (by rw [← ht.out]; simp), ← hh]; rfl)
    have EL := hid (show niL cs s = [] by rw [niL, if_neg (fun q => by rw [← hh] at q; cases q.2)])
    obtain ⟨z0, z1, z2, z3⟩ := var2_facts V.out
    have HS := hid (var2_set (x' := .int .i64 3) (y' := .slice none 0 0) V.out)
    have HW := hid (below_st2 (.int .i64 3) (.slice none 0 0) BB.out GL.out)
    clear ht hh
    go_wp2
    exact bodyPost_ret (v := .agg #[.int .i64 3, .slice none 0 0]) (results_cell_row rfl _ _ g 35 _ _ _ rfl HS.out Try.underlying35 rfl (by kernel_rfl)) rfl ⟨_, by rw [E.out], by rw [EL.out]; exact RdZ.nil _, HW.out⟩
  · have E := hid (show niC cs s = 0 by rw [niC, if_neg (by rw [← ht.out]; simp), ← hh]; rfl)
    have EL := hid (show niL cs s = ndw cs s by rw [niL, if_pos ⟨ht.out.symm, hh.symm⟩])
    clear ht hh
    go_wp2_with fail
    refine (s8w _ cs s _ H.out hl).mono ?_
    rintro e w3 ⟨u, rfl, hO, hB⟩
    obtain ⟨pq, cq, rfl, -, -, -⟩ := hO.rd.parts
    replace V := hid (var_below hB V.out)
    replace BB := hid (BB.out.trans (hB.mono BB.out.size))
    generalize ndw cs s = l at *
    obtain ⟨z0, z1, z2, z3⟩ := var2_facts V.out
    have HS := hid (var2_set (x' := .int .i64 0) (y' := .slice pq l.length cq) V.out)
    have HW := hid (below_st2 (.int .i64 0) (.slice pq l.length cq) BB.out GL.out)
    have HO := hid (owZ_st2 hO LT.out (.int .i64 0) (.slice pq l.length cq))
    clear hO hB
    go_wp2
    exact bodyPost_ret (v := .agg #[.int .i64 0, .slice pq l.length cq]) (results_cell_row rfl _ _ g 35 _ _ _ rfl HS.out Try.underlying35 rfl (by kernel_rfl)) rfl ⟨_, by rw [E.out], by rw [EL.out]; exact HO.out.rd, HW.out⟩
end Go.Proofs.Ytpcndgmmdpgpmac.W
