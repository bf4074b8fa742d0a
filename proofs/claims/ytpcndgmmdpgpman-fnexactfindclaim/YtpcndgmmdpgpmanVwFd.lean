/-
  Where a node stands in a view: what l8Find and FindClaim of the model answer.
-/
import Derived.Test.YtpcndgmmdpgpmanVwS
import Derived.Test.YtpcndgmmdpgpmanLetV
import Derived.Test.YtpcndgmmdpgpmanLetF
namespace Go.Proofs.Ytpcndgmmdpgpman.W
open Go.ChangeShapes Go.WideShapes Go.ChangeAt Go.RowKit
open Go.Proofs.Ytpcndgmmdpgpman.M

/-- Where the first claim of a node stands; -1 where there is none. -/
def fdI (cs : List Clm) (n : Int) : Int := if hasN cs n then (lb cs n : Int) else -1
set_option maxHeartbeats 1000000 in
set_option maxRecDepth 100000 in
theorem s8f (v : Value) (cs : List Clm) (n : Int) (w : World) (h : RdC w v cs) (hp : cs.Pairwise (fun a b => a.n < b.n)) :
    Calls Try.prog 53 #[v, .int .i64 n] w fun e w' => e = .returned (.int .i64 (fdI cs n)) ∧ Below w.heap.size w w' := by
  have H := hid h
  have HP := hid hp
  obtain ⟨a, cap, rfl, hc, hm, -⟩ := h.parts
  have hmx : cs.length ≤ 9223372036854775807 := by unfold maxLen at hm; omega
  clear h hp hc hm
  go_enter Try.func53, Try.ntmps53
  go_wp2_with fail
  go_loopw [5] (fun i wr => ∃ k : Nat, k ≤ cs.length ∧ i = .int .i64 k ∧ Hid (Below w.heap.size w wr) ∧ Hid (∀ j (hj : j < cs.length), j < k → cs[j].n ≠ n)) (fun i _ => cs.length - (intOf i).toNat)
  case atStart => exact ⟨0, by omega, rfl, hid (Below.refl _ _), hid fun j _ q => by omega⟩
  case round =>
    obtain ⟨k, hk, rfl, BL, OK⟩ := hrel
    by_cases hlt : k < cs.length
    · obtain ⟨a', cap', e, -, -, hcs⟩ := (H.out.below BL.out).parts
      cases e
      obtain ⟨b, o, rfl, q1⟩ := hcs k hlt
      obtain ⟨c0, -, -, -⟩ := c_cells q1
      have I1 := idx_ci b o cs.length cap k hlt
      clear q1 hcs
      by_cases hn : cs[k].n = n
      · have E := hid (show fdI cs n = (k : Int) by
          obtain ⟨e1, e2⟩ := lb_of HP.out hlt hn
          rw [fdI, if_pos e2, e1])
        go_wp2
        go_ret
        exact ⟨ret_vi E.out.symm, BL.out⟩
      · have OK2 := hid (show ∀ j (hj : j < cs.length), j < k + 1 → cs[j].n ≠ n from fun j hj q => by
          rcases Nat.lt_or_ge j k with q2 | q2
          · exact OK.out j hj q2
          · obtain rfl : j = k := by omega
            exact hn)
        go_wp2
        go_roundw
        case rel => exact ⟨k + 1, hlt, by go_num, BL, OK2⟩
        case measure => simp [intOf]; omega
    · have E := hid (show fdI cs n = -1 by
        rw [fdI, if_neg]
        rw [Bool.not_eq_true]
        exact hasN_none fun j hj => OK.out j hj (by omega))
      go_wp2
      go_ret
      exact ⟨ret_vi E.out.symm, BL.out⟩
/-- What is told of a view: a code, the claims that v reads, whether it changed. -/
theorem rdC_one {w : World} {g : Nat} {c : Clm} {T : TypeId} (h : w.heap[g]? = some (.cells #[.int .i64 c.n, .int .i64 c.i, .int .i64 c.s, .int .i64 c.m] T)) : RdC w (.slice (some ⟨g, 0, none⟩) 1 1) [c] :=
  ⟨_, 1, rfl, Nat.le_refl _, by unfold maxLen; omega, fun i hi => ⟨g, 0, rfl, fun t x q => by
    obtain rfl : i = 0 := by simpa using hi
    rw [cell_of_row w g _ _ _ _ h]
    simpa [crow] using q⟩⟩
theorem owC_one {w : World} {base g : Nat} {c : Clm} (h : w.heap[g]? = some (.cells #[.int .i64 c.n, .int .i64 c.i, .int .i64 c.s, .int .i64 c.m] 48)) (hb : base ≤ g) : OwC w base (.slice (some ⟨g, 0, none⟩) 1 1) [c] :=
  ⟨rfl, .inr ⟨g, 1, _, rfl, hb, h, Nat.le_refl _, by unfold maxLen; omega, rfl, rfl⟩⟩
theorem below_st3 {B : Nat} {w w' : World} {g : Nat} (x y z : Value) (h : Below B w w') (hg : B ≤ g) : Below B w (((w'.setCell ⟨g, 0, none⟩ x).setCell ⟨g, 1, none⟩ y).setCell ⟨g, 2, none⟩ z) :=
  ((h.setCell (p := ⟨g, 0, none⟩) hg x).setCell (p := ⟨g, 1, none⟩) hg y).setCell (p := ⟨g, 2, none⟩) hg z
theorem OwC.st3 {w : World} {base g : Nat} {v : Value} {cs : List Clm} (h : OwC w base v cs) (hg : g < base) (x y z : Value) : OwC (((w.setCell ⟨g, 0, none⟩ x).setCell ⟨g, 1, none⟩ y).setCell ⟨g, 2, none⟩ z) base v cs :=
  ownsRow_setCell_below (ownsRow_setCell_below (ownsRow_setCell_below h (a := ⟨g, 0, none⟩) hg x) (a := ⟨g, 1, none⟩) hg y) (a := ⟨g, 2, none⟩) hg z
set_option maxHeartbeats 1000000 in
set_option maxRecDepth 100000 in
theorem sfc (v : Value) (cs : List Clm) (n : Int) (w : World) (h : RdC w v cs) :
    Calls Try.prog 30 #[v, .int .i64 n] w fun e w' => ∃ u, e = .returned (.agg #[.int .i64 (fcC cs n), u, .bool false]) ∧ RdC w' u (fcL cs n) ∧ Below w.heap.size w w' := by
  have H := hid h
  obtain ⟨a, cap, rfl, hc, hm, -⟩ := h.parts
  clear h hc hm
  go_enter Try.func30, Try.ntmps30
  have V := hid (heap_alloc_new w (.cells #[.int .i64 0, .slice none 0 0, .bool false] 52))
  have BB := hid (below_alloc1 w (.cells #[.int .i64 0, .slice none 0 0, .bool false] 52))
  go_wp2_with fail
  generalize w.alloc (.cells #[.int .i64 0, .slice none 0 0, .bool false] 52) = w0 at *
  replace H := hid (H.out.below BB.out)
  have LT := hid (var_lt V.out)
  obtain ⟨g, hg⟩ : ∃ g, g = w.heap.size := ⟨_, rfl⟩
  rw [← hg] at V LT ⊢
  have GL := hid (show w.heap.size ≤ g by omega)
  clear hg
  refine (svf _ cs _ H.out).mono ?_
  rintro e w1 ⟨rfl, hB⟩
  replace V := hid (var_below hB V.out)
  replace H := hid (H.out.below hB)
  replace BB := hid (BB.out.trans (hB.mono BB.out.size))
  replace LT := hid (Nat.lt_of_lt_of_le LT.out hB.size)
  clear hB
  obtain ⟨t, ht⟩ : ∃ t, t = vF cs := ⟨_, rfl⟩
  rw [← ht]
  by_cases h0 : t = 0
  case neg =>
    have ne : (t != 0) = true := by rw [bne_iff_ne]; exact h0
    have E := hid (show fcC cs n = t by rw [fcC, if_pos (by rw [← ht]; exact h0), ht])
    have EL := hid (show fcL cs n = [] by rw [fcL, if_neg (fun q => h0 (by rw [ht]; exact q.1))])
    obtain ⟨⟨z0, z1, z2⟩, z3, z4, z5⟩ := var3_facts V.out
    have HS := hid (var3_set (x' := .int .i64 t) (y' := .slice none 0 0) (z' := .bool false) V.out)
    have HW := hid (below_st3 (.int .i64 t) (.slice none 0 0) (.bool false) BB.out GL.out)
    clear ht h0
    go_wp2
    exact bodyPost_ret (v := .agg #[.int .i64 t, .slice none 0 0, .bool false]) (results_cell_row rfl _ _ g 52 _ _ _ rfl HS.out Try.underlying52 rfl (by kernel_rfl)) rfl ⟨_, by rw [E.out], by rw [EL.out]; exact RdC.nil _, HW.out⟩
  subst h0
  have VO := hid (vF_ok ht.symm)
  go_wp2_with fail
  refine (s8f _ cs n _ H.out VO.out.2.2).mono ?_
  rintro e w2 ⟨rfl, hB⟩
  replace V := hid (var_below hB V.out)
  replace H := hid (H.out.below hB)
  replace BB := hid (BB.out.trans (hB.mono BB.out.size))
  replace LT := hid (Nat.lt_of_lt_of_le LT.out hB.size)
  clear hB
  cases hh : hasN cs n
  · have E := hid (show fcC cs n = 4 by rw [fcC, if_neg (by rw [← ht]; simp), hh]; rfl)
    have EL := hid (show fcL cs n = [] by rw [fcL, if_neg (fun q => by rw [hh] at q; cases q.2)])
    rw [show fdI cs n = -1 by rw [fdI, hh]; rfl]
    obtain ⟨⟨z0, z1, z2⟩, z3, z4, z5⟩ := var3_facts V.out
    have HS := hid (var3_set (x' := .int .i64 4) (y' := .slice none 0 0) (z' := .bool false) V.out)
    have HW := hid (below_st3 (.int .i64 4) (.slice none 0 0) (.bool false) BB.out GL.out)
    clear ht hh
    go_wp2
    exact bodyPost_ret (v := .agg #[.int .i64 4, .slice none 0 0, .bool false]) (results_cell_row rfl _ _ g 52 _ _ _ rfl HS.out Try.underlying52 rfl (by kernel_rfl)) rfl ⟨_, by rw [E.out], by rw [EL.out]; exact RdC.nil _, HW.out⟩
  · obtain ⟨hk, hkn⟩ := hasN_yes hh
    have E := hid (show fcC cs n = 0 by rw [fcC, if_neg (by rw [← ht]; simp), hh]; rfl)
    have EL := hid (show fcL cs n = [cs[lb cs n]'hk] by rw [fcL, if_pos ⟨ht.symm, hh⟩]; simp [List.getD_eq_getElem?_getD, hk])
    rw [show fdI cs n = (lb cs n : Int) by rw [fdI, hh]; rfl]
    generalize lb cs n = k at *
    obtain ⟨a', cap', e, -, -, hcs⟩ := H.out.parts
    cases e
    obtain ⟨b, o, rfl, q1⟩ := hcs k hk
    obtain ⟨c0, c1, c2, c3⟩ := c_cells q1
    have I1 := idx_ci b o cs.length cap k hk
    obtain ⟨M, hM⟩ : ∃ M, M = cs[k] := ⟨_, rfl⟩
    rw [← hM] at c0 c1 c2 c3 EL
    have VN := heap_alloc_new w2 (.cells #[.int .i64 M.n, .int .i64 M.i, .int .i64 M.s, .int .i64 M.m] 48)
    have hA := below_alloc1 w2 (.cells #[.int .i64 M.n, .int .i64 M.i, .int .i64 M.s, .int .i64 M.m] 48)
    have OO := owC_one VN LT.out
    replace V := hid (var_below hA V.out)
    replace BB := hid (BB.out.trans (hA.mono BB.out.size))
    obtain ⟨⟨z0, z1, z2⟩, z3, z4, z5⟩ := var3_facts V.out
    have HS := hid (var3_set (x' := .int .i64 0) (y' := .slice (some ⟨w2.heap.size, 0, none⟩) 1 1) (z' := .bool false) V.out)
    have HW := hid (below_st3 (.int .i64 0) (.slice (some ⟨w2.heap.size, 0, none⟩) 1 1) (.bool false) BB.out GL.out)
    have HO := hid (OO.st3 (Nat.lt_succ_self g) (.int .i64 0) (.slice (some ⟨w2.heap.size, 0, none⟩) 1 1) (.bool false))
    clear hM q1 hcs ht hh hkn OO VN hA
    go_wp2
    exact bodyPost_ret (v := .agg #[.int .i64 0, .slice (some ⟨w2.heap.size, 0, none⟩) 1 1, .bool false]) (results_cell_row rfl _ _ g 52 _ _ _ rfl HS.out Try.underlying52 rfl (by kernel_rfl)) rfl ⟨_, by rw [E.out], by rw [EL.out]; exact HO.out.rd, HW.out⟩
end Go.Proofs.Ytpcndgmmdpgpman.W
