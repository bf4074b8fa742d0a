/-
  What RefuteBy, SuspectBy and BuryBy answer: the program: SuspectBy.
-/
import Derived.Test.YtbleikbmnkjbeapCrS
import Derived.Test.YtbleikbmnkjbeapCrT
import Derived.Test.YtbleikbmnkjbeapVwFi
namespace Go.Proofs.Ytbleikbmnkjbeap.W
open Go.ChangeShapes Go.WideShapes Go.ChangeAt Go.RowKit
open Go.Proofs.Ytbleikbmnkjbeap.M

set_option maxHeartbeats 2000000 in
set_option maxRecDepth 100000 in
theorem isus (v : Value) (cs : List Clm) (n : Int) (w : World) (h : RdC w v cs) :
    Calls Try.prog 29 #[v, .int .i64 n] w fun e w' => e = .returned (.agg #[.int .i64 (suA cs n).1, .int .i64 (suA cs n).2.1.n, .int .i64 (suA cs n).2.1.i, .int .i64 (suA cs n).2.1.s, .int .i64 (suA cs n).2.1.m, .bool (suA cs n).2.2]) ∧ Below w.heap.size w w' := by
  obtain ⟨R, hR⟩ : ∃ R, R = suA cs n := ⟨_, rfl⟩
  rw [← hR]
  replace hR := hid hR
  have H := hid (h.below (below_alloc1 w (.cells #[.int .i64 0, .int .i64 0, .int .i64 0, .int .i64 0, .int .i64 0, .bool false] 41)))
  obtain ⟨a, cap, rfl, -, -, -⟩ := h.parts
  clear h
  have V := hid (heap_alloc_new w (.cells #[.int .i64 0, .int .i64 0, .int .i64 0, .int .i64 0, .int .i64 0, .bool false] 41))
  have BB := hid (below_alloc1 w (.cells #[.int .i64 0, .int .i64 0, .int .i64 0, .int .i64 0, .int .i64 0, .bool false] 41))
  go_enter Try.func29, Try.ntmps29
  go_wp2_with fail
  generalize w.alloc (.cells #[.int .i64 0, .int .i64 0, .int .i64 0, .int .i64 0, .int .i64 0, .bool false] 41) = w0 at *
  obtain ⟨g, hg⟩ : ∃ g, g = w.heap.size := ⟨_, rfl⟩
  have LG := hid (show w.heap.size ≤ g by omega)
  rw [← hg] at V ⊢
  replace hg := hid hg
  refine (ifc _ cs n _ H.out).mono ?_
  rintro e w1 ⟨u, rfl, hO, hB⟩
  have RU := hid hO.rd
  clear hO
  replace V := hid (var_below hB V.out)
  replace BB := hid (BB.out.trans (hB.mono BB.out.size))
  clear hB H
  obtain ⟨pu, ku, rfl, -, -, -⟩ := RU.out.parts
  by_cases hf : vF cs = 0
  case neg =>
    have E := hid (su_fault (n := n) hf)
    obtain ⟨t, ht⟩ : ∃ t, t = fcC cs n := ⟨_, rfl⟩
    have nt : (t != 0) = true := by rw [ht, show fcC cs n = vF cs by rw [fcC, if_pos hf]]; simpa using hf
    rw [← ht]
    have E2 := hid (show suA cs n = (t, zC, false) by rw [E.out, ht, show fcC cs n = vF cs by rw [fcC, if_pos hf]])
    obtain ⟨m, hm⟩ : ∃ m, m = (fcL cs n).length := ⟨_, rfl⟩
    rw [← hm]
    replace hm := hid hm
    replace ht := hid ht
    clear RU E
    replace V := hid (var_alloc (.cells #[.int .i64 t, .slice pu m ku, .bool false] 79) V.out)
    replace BB := hid (BB.out.trans ((below_alloc1 w1 (.cells #[.int .i64 t, .slice pu m ku, .bool false] 79)).mono BB.out.size))
    have V2 := hid (cr_row (new := #[.int .i64 t, .int .i64 0, .int .i64 0, .int .i64 0, .int .i64 0, .bool false]) V.out)
    have B2 := hid (cr_below (L := #[.int .i64 t, .int .i64 0, .int .i64 0, .int .i64 0, .int .i64 0, .bool false]) BB.out LG.out)
    go_wp2_with (first | refine buildC rfl 41 _ rfl _ (cr_e0 (c := t) (by simp [Act.eval])) ?_ | refine wpList_store_row rfl 41 _ _ rfl g #[.int .i64 t, .int .i64 0, .int .i64 0, .int .i64 0, .int .i64 0, .bool false] rfl rfl 41 _ V.out (cr_info _ rfl) rfl (cr_one _ _ _ _ _ _) ?_)
    exact bodyPost_ret (v := .agg #[.int .i64 t, .int .i64 0, .int .i64 0, .int .i64 0, .int .i64 0, .bool false]) (results_cell_row rfl _ _ g 41 _ _ _ rfl V2.out Try.underlying41 rfl (by kernel_rfl)) rfl ⟨by have e := hR.out.trans E2.out; rw [e]; first | done | rfl, B2.out⟩
  by_cases hh : hasN cs n = true
  case neg =>
    have E := hid (su_none (n := n) hf (by simpa using hh))
    obtain ⟨t, ht⟩ : ∃ t, t = fcC cs n := ⟨_, rfl⟩
    have nt : (t != 0) = true := by rw [ht, show fcC cs n = 4 by rw [fcC, if_neg (by simp [hf])]; simp [hh]]; rfl
    rw [← ht]
    have E2 := hid (show suA cs n = (t, zC, false) by rw [E.out, ht, show fcC cs n = 4 by rw [fcC, if_neg (by simp [hf])]; simp [hh]])
    obtain ⟨m, hm⟩ : ∃ m, m = (fcL cs n).length := ⟨_, rfl⟩
    rw [← hm]
    replace hm := hid hm
    replace ht := hid ht
    clear RU E
    replace V := hid (var_alloc (.cells #[.int .i64 t, .slice pu m ku, .bool false] 79) V.out)
    replace BB := hid (BB.out.trans ((below_alloc1 w1 (.cells #[.int .i64 t, .slice pu m ku, .bool false] 79)).mono BB.out.size))
    have V2 := hid (cr_row (new := #[.int .i64 t, .int .i64 0, .int .i64 0, .int .i64 0, .int .i64 0, .bool false]) V.out)
    have B2 := hid (cr_below (L := #[.int .i64 t, .int .i64 0, .int .i64 0, .int .i64 0, .int .i64 0, .bool false]) BB.out LG.out)
    go_wp2_with (first | refine buildC rfl 41 _ rfl _ (cr_e0 (c := t) (by simp [Act.eval])) ?_ | refine wpList_store_row rfl 41 _ _ rfl g #[.int .i64 t, .int .i64 0, .int .i64 0, .int .i64 0, .int .i64 0, .bool false] rfl rfl 41 _ V.out (cr_info _ rfl) rfl (cr_one _ _ _ _ _ _) ?_)
    exact bodyPost_ret (v := .agg #[.int .i64 t, .int .i64 0, .int .i64 0, .int .i64 0, .int .i64 0, .bool false]) (results_cell_row rfl _ _ g 41 _ _ _ rfl V2.out Try.underlying41 rfl (by kernel_rfl)) rfl ⟨by have e := hR.out.trans E2.out; rw [e]; first | done | rfl, B2.out⟩
  obtain ⟨hk, -⟩ := hasN_yes hh
  obtain ⟨X, hX⟩ : ∃ X, X = cs.getD (lb cs n) zC := ⟨_, rfl⟩
  have EM := hid fun q => su_made hf hh hX q
  have ES := hid fun q => su_same hf hh hX q
  have EC : fcC cs n = 0 := by rw [fcC, if_neg (by simp [hf]), if_pos hh]
  have EL : fcL cs n = [X] := by rw [fcL, if_pos ⟨hf, hh⟩, hX]
  rw [EC]
  rw [EL] at RU ⊢
  replace hf := hid hf
  replace hh := hid hh
  replace hX := hid hX
  clear EC EL
  obtain ⟨a', cap', e, -, -, hcs⟩ := RU.out.parts
  cases e
  obtain ⟨b, o, rfl, q1⟩ := hcs 0 (by simp)
  simp only [List.getElem_cons_zero, Nat.zero_mul, Nat.add_zero] at q1
  obtain ⟨c0, c1, c2, c3⟩ := c_cells q1
  clear q1 hcs RU
  have I1 := idx_ci b o 1 ku 0 (by omega)
  simp only [Nat.zero_mul, Nat.add_zero] at I1
  by_cases h0 : X.s = 0
  · have E := hid (EM.out h0)
    have n0 : (X.s == 0) = true := by simp [h0]
    replace h0 := hid h0
    clear EM ES
    have hA := below_alloc2 w1 (.cells #[.int .i64 0, .slice (some ⟨b, o, none⟩) 1 ku, .bool false] 79) (.cells #[.int .i64 X.n, .int .i64 X.i, .int .i64 X.s, .int .i64 X.m] 39)
    replace V := hid (var_below hA V.out)
    replace BB := hid (BB.out.trans (hA.mono BB.out.size))
    clear hA
    have k0 := cell_alloc c0 (.cells #[.int .i64 0, .slice (some ⟨b, o, none⟩) 1 ku, .bool false] 79)
    have k1 := cell_alloc c1 (.cells #[.int .i64 0, .slice (some ⟨b, o, none⟩) 1 ku, .bool false] 79)
    have k2 := cell_alloc c2 (.cells #[.int .i64 0, .slice (some ⟨b, o, none⟩) 1 ku, .bool false] 79)
    have k3 := cell_alloc c3 (.cells #[.int .i64 0, .slice (some ⟨b, o, none⟩) 1 ku, .bool false] 79)
    go_wp2_with fail
    clear c0 c1 c2 c3 k0 k1 k2 k3 I1
    refine (ttt 1 X true _).mono ?_
    rintro e w2 ⟨rfl, hB⟩
    replace V := hid (var_below hB V.out)
    replace BB := hid (BB.out.trans (hB.mono BB.out.size))
    clear hB n0
    rw [if_pos rfl]
    have V2 := hid (cr_row (new := #[.int .i64 0, .int .i64 X.n, .int .i64 X.i, .int .i64 1, .int .i64 X.m, .bool true]) V.out)
    have B2 := hid (cr_below (L := #[.int .i64 0, .int .i64 X.n, .int .i64 X.i, .int .i64 1, .int .i64 X.m, .bool true]) BB.out LG.out)
    go_wp2_with (first | fail | refine wpList_store_row rfl 41 _ _ rfl g #[.int .i64 0, .int .i64 X.n, .int .i64 X.i, .int .i64 1, .int .i64 X.m, .bool true] rfl rfl 41 _ V.out (cr_info _ rfl) rfl (cr_one _ _ _ _ _ _) ?_)
    exact bodyPost_ret (v := .agg #[.int .i64 0, .int .i64 X.n, .int .i64 X.i, .int .i64 1, .int .i64 X.m, .bool true]) (results_cell_row rfl _ _ g 41 _ _ _ rfl V2.out Try.underlying41 rfl (by kernel_rfl)) rfl ⟨by have e := hR.out.trans E.out; rw [e]; first | done | rfl, B2.out⟩
  · have E := hid (ES.out h0)
    have n0 : (X.s == 0) = false := by simp [h0]
    replace h0 := hid h0
    clear EM ES
    have hA := below_alloc2 w1 (.cells #[.int .i64 0, .slice (some ⟨b, o, none⟩) 1 ku, .bool false] 79) (.cells #[.int .i64 X.n, .int .i64 X.i, .int .i64 X.s, .int .i64 X.m] 39)
    replace V := hid (var_below hA V.out)
    replace BB := hid (BB.out.trans (hA.mono BB.out.size))
    clear hA
    have k0 := cell_alloc c0 (.cells #[.int .i64 0, .slice (some ⟨b, o, none⟩) 1 ku, .bool false] 79)
    have k1 := cell_alloc c1 (.cells #[.int .i64 0, .slice (some ⟨b, o, none⟩) 1 ku, .bool false] 79)
    have k2 := cell_alloc c2 (.cells #[.int .i64 0, .slice (some ⟨b, o, none⟩) 1 ku, .bool false] 79)
    have k3 := cell_alloc c3 (.cells #[.int .i64 0, .slice (some ⟨b, o, none⟩) 1 ku, .bool false] 79)
    go_wp2_with fail
    clear c0 c1 c2 c3 k0 k1 k2 k3 I1
    refine (ttt 1 X false _).mono ?_
    rintro e w2 ⟨rfl, hB⟩
    replace V := hid (var_below hB V.out)
    replace BB := hid (BB.out.trans (hB.mono BB.out.size))
    clear hB n0
    rw [if_neg (by decide)]
    have V2 := hid (cr_row (new := #[.int .i64 0, .int .i64 X.n, .int .i64 X.i, .int .i64 X.s, .int .i64 X.m, .bool false]) V.out)
    have B2 := hid (cr_below (L := #[.int .i64 0, .int .i64 X.n, .int .i64 X.i, .int .i64 X.s, .int .i64 X.m, .bool false]) BB.out LG.out)
    go_wp2_with (first | fail | refine wpList_store_row rfl 41 _ _ rfl g #[.int .i64 0, .int .i64 X.n, .int .i64 X.i, .int .i64 X.s, .int .i64 X.m, .bool false] rfl rfl 41 _ V.out (cr_info _ rfl) rfl (cr_one _ _ _ _ _ _) ?_)
    exact bodyPost_ret (v := .agg #[.int .i64 0, .int .i64 X.n, .int .i64 X.i, .int .i64 X.s, .int .i64 X.m, .bool false]) (results_cell_row rfl _ _ g 41 _ _ _ rfl V2.out Try.underlying41 rfl (by kernel_rfl)) rfl ⟨by have e := hR.out.trans E.out; rw [e]; first | done | rfl, B2.out⟩
end Go.Proofs.Ytbleikbmnkjbeap.W
