/-
  What RefuteBy, SuspectBy and BuryBy answer: the program: BuryBy.
-/
import Derived.Test.YtbleikbmnkjbeapCrKs
import Derived.Test.YtbleikbmnkjbeapCrT
import Derived.Test.YtbleikbmnkjbeapVwFi
import Derived.Test.YtbleikbmnkjbeapWtVi
namespace Go.Proofs.Ytbleikbmnkjbeap.W
open Go.ChangeShapes Go.WideShapes Go.ChangeAt Go.RowKit
open Go.Proofs.Ytbleikbmnkjbeap.M

set_option maxHeartbeats 4000000 in
set_option maxRecDepth 100000 in
theorem ibur (v : Value) (cs : List Clm) (x : Wai) (w : World) (h : RdC w v cs) :
    Calls Try.prog 33 #[v, .agg #[.int .i64 x.a, .int .i64 x.b, .int .i64 x.c, .int .i64 x.d, .int .i64 x.e, .int .i64 x.f, .int .i64 x.g]] w fun e w' => e = .returned (.agg #[.int .i64 (buA cs x).1, .int .i64 (buA cs x).2.1.n, .int .i64 (buA cs x).2.1.i, .int .i64 (buA cs x).2.1.s, .int .i64 (buA cs x).2.1.m, .bool (buA cs x).2.2]) ∧ Below w.heap.size w w' := by
  obtain ⟨R, hR⟩ : ∃ R, R = buA cs x := ⟨_, rfl⟩
  rw [← hR]
  replace hR := hid hR
  have H := hid (h.below (below_alloc2 w (.cells #[.int .i64 x.a, .int .i64 x.b, .int .i64 x.c, .int .i64 x.d, .int .i64 x.e, .int .i64 x.f, .int .i64 x.g] 56) (.cells #[.int .i64 0, .int .i64 0, .int .i64 0, .int .i64 0, .int .i64 0, .bool false] 41)))
  obtain ⟨a, cap, rfl, -, -, -⟩ := h.parts
  clear h
  have VB := hid (var_alloc (.cells #[.int .i64 0, .int .i64 0, .int .i64 0, .int .i64 0, .int .i64 0, .bool false] 41) (heap_alloc_new w (.cells #[.int .i64 x.a, .int .i64 x.b, .int .i64 x.c, .int .i64 x.d, .int .i64 x.e, .int .i64 x.f, .int .i64 x.g] 56)))
  have V := hid (heap_alloc_new (w.alloc (.cells #[.int .i64 x.a, .int .i64 x.b, .int .i64 x.c, .int .i64 x.d, .int .i64 x.e, .int .i64 x.f, .int .i64 x.g] 56)) (.cells #[.int .i64 0, .int .i64 0, .int .i64 0, .int .i64 0, .int .i64 0, .bool false] 41))
  simp only [World.size_alloc] at V
  have BB := hid (below_alloc2 w (.cells #[.int .i64 x.a, .int .i64 x.b, .int .i64 x.c, .int .i64 x.d, .int .i64 x.e, .int .i64 x.f, .int .i64 x.g] 56) (.cells #[.int .i64 0, .int .i64 0, .int .i64 0, .int .i64 0, .int .i64 0, .bool false] 41))
  go_enter Try.func33, Try.ntmps33
  go_wp2_with fail
  generalize (w.alloc (.cells #[.int .i64 x.a, .int .i64 x.b, .int .i64 x.c, .int .i64 x.d, .int .i64 x.e, .int .i64 x.f, .int .i64 x.g] 56)).alloc (.cells #[.int .i64 0, .int .i64 0, .int .i64 0, .int .i64 0, .int .i64 0, .bool false] 41) = w0 at *
  obtain ⟨g, hg⟩ : ∃ g, g = w.heap.size + 1 := ⟨_, rfl⟩
  rw [← hg] at V ⊢
  have LG := hid (show w.heap.size ≤ g by omega)
  obtain ⟨gb, hgb⟩ : ∃ g, g = w.heap.size := ⟨_, rfl⟩
  rw [← hgb] at VB ⊢
  replace hg := hid hg
  replace hgb := hid hgb
  refine (ivf _ cs _ H.out).mono ?_
  rintro e w1 ⟨rfl, hB⟩
  replace H := hid (H.out.below hB)
  replace VB := hid (var_below hB VB.out)
  replace V := hid (var_below hB V.out)
  replace BB := hid (BB.out.trans (hB.mono BB.out.size))
  clear hB
  obtain ⟨t, ht⟩ : ∃ t, t = vF cs := ⟨_, rfl⟩
  rw [← ht]
  replace ht := hid ht
  by_cases h0 : t = 0
  case neg =>
    have E := hid (bu_fault (x := x) (show vF cs ≠ 0 by rw [← ht.out]; exact h0))
    rw [← ht.out] at E
    have V2 := hid (cr_row (new := #[.int .i64 t, .int .i64 0, .int .i64 0, .int .i64 0, .int .i64 0, .bool false]) V.out)
    have B2 := hid (cr_below (L := #[.int .i64 t, .int .i64 0, .int .i64 0, .int .i64 0, .int .i64 0, .bool false]) BB.out LG.out)
    go_wp2_with (first | refine buildC rfl 41 _ rfl _ (cr_e0 (c := t) (by simp [Act.eval])) ?_ | refine wpList_store_row rfl 41 _ _ rfl g #[.int .i64 t, .int .i64 0, .int .i64 0, .int .i64 0, .int .i64 0, .bool false] rfl rfl 41 _ V.out (cr_info _ rfl) rfl (cr_one _ _ _ _ _ _) ?_)
    exact bodyPost_ret (v := .agg #[.int .i64 t, .int .i64 0, .int .i64 0, .int .i64 0, .int .i64 0, .bool false]) (results_cell_row rfl _ _ g 41 _ _ _ rfl V2.out Try.underlying41 rfl (by kernel_rfl)) rfl ⟨by have e := hR.out.trans E.out; rw [e]; first | done | rfl, B2.out⟩
  subst h0
  obtain ⟨⟨b0, b1, b2, b3, b4, b5, b6⟩, -⟩ := v7_facts VB.out
  have VX := hid (heap_alloc_new w1 (.cells #[.int .i64 x.a, .int .i64 x.b, .int .i64 x.c, .int .i64 x.d, .int .i64 x.e, .int .i64 x.f, .int .i64 x.g] 56))
  have hB := below_alloc1 w1 (.cells #[.int .i64 x.a, .int .i64 x.b, .int .i64 x.c, .int .i64 x.d, .int .i64 x.e, .int .i64 x.f, .int .i64 x.g] 56)
  replace H := hid (H.out.below hB)
  replace VB := hid (var_below hB VB.out)
  replace V := hid (var_below hB V.out)
  replace BB := hid (BB.out.trans (hB.mono BB.out.size))
  clear hB
  go_wp2_with fail
  clear b0 b1 b2 b3 b4 b5 b6
  refine (i9f _ [x] _ (rdJ_one VX.out)).mono ?_
  rintro e w2 ⟨rfl, hB⟩
  replace H := hid (H.out.below hB)
  replace VB := hid (var_below hB VB.out)
  replace V := hid (var_below hB V.out)
  replace BB := hid (BB.out.trans (hB.mono BB.out.size))
  clear hB
  clear VX
  rw [wtF_one]
  obtain ⟨u, hu⟩ : ∃ u, u = wt1 x := ⟨_, rfl⟩
  rw [← hu]
  replace hu := hid hu
  by_cases h0 : u = 0
  case neg =>
    have E := hid (bu_wait (cs := cs) ht.out.symm (show wt1 x ≠ 0 by rw [← hu.out]; exact h0))
    rw [← hu.out] at E
    have V2 := hid (cr_row (new := #[.int .i64 u, .int .i64 0, .int .i64 0, .int .i64 0, .int .i64 0, .bool false]) V.out)
    have B2 := hid (cr_below (L := #[.int .i64 u, .int .i64 0, .int .i64 0, .int .i64 0, .int .i64 0, .bool false]) BB.out LG.out)
    go_wp2_with (first | refine buildC rfl 41 _ rfl _ (cr_e0 (c := u) (by simp [Act.eval])) ?_ | refine wpList_store_row rfl 41 _ _ rfl g #[.int .i64 u, .int .i64 0, .int .i64 0, .int .i64 0, .int .i64 0, .bool false] rfl rfl 41 _ V.out (cr_info _ rfl) rfl (cr_one _ _ _ _ _ _) ?_)
    exact bodyPost_ret (v := .agg #[.int .i64 u, .int .i64 0, .int .i64 0, .int .i64 0, .int .i64 0, .bool false]) (results_cell_row rfl _ _ g 41 _ _ _ rfl V2.out Try.underlying41 rfl (by kernel_rfl)) rfl ⟨by have e := hR.out.trans E.out; rw [e]; first | done | rfl, B2.out⟩
  subst h0
  obtain ⟨⟨b0, b1, b2, b3, b4, b5, b6⟩, -⟩ := v7_facts VB.out
  go_wp2_with fail
  clear b0 b1 b2 b3 b4 b5 b6
  refine (ifc _ cs x.c _ H.out).mono ?_
  rintro e w3 ⟨u, rfl, hO, hB⟩
  have RU := hid hO.rd
  clear hO
  replace VB := hid (var_below hB VB.out)
  replace V := hid (var_below hB V.out)
  replace BB := hid (BB.out.trans (hB.mono BB.out.size))
  clear hB
  clear H
  obtain ⟨pu, ku, rfl, -, -, -⟩ := RU.out.parts
  have hf := ht.out.symm
  by_cases hh : hasN cs x.c = true
  case neg =>
    have E := hid (bu_none hf hu.out.symm (by simpa using hh))
    have CC : fcC cs x.c = 4 := by rw [fcC, if_neg (by simp [hf])]; simp [hh]
    rw [CC]
    obtain ⟨m, hm⟩ : ∃ m, m = (fcL cs x.c).length := ⟨_, rfl⟩
    rw [← hm]
    replace hm := hid hm
    clear RU CC
    replace hf := hid hf
    replace hh := hid hh
    replace V := hid (var_alloc (.cells #[.int .i64 4, .slice pu m ku, .bool false] 79) V.out)
    replace BB := hid (BB.out.trans ((below_alloc1 w3 (.cells #[.int .i64 4, .slice pu m ku, .bool false] 79)).mono BB.out.size))
    have V2 := hid (cr_row (new := #[.int .i64 4, .int .i64 0, .int .i64 0, .int .i64 0, .int .i64 0, .bool false]) V.out)
    have B2 := hid (cr_below (L := #[.int .i64 4, .int .i64 0, .int .i64 0, .int .i64 0, .int .i64 0, .bool false]) BB.out LG.out)
    go_wp2_with (first | refine buildC rfl 41 _ rfl _ (cr_e0 (c := 4) (by simp [Act.eval])) ?_ | refine wpList_store_row rfl 41 _ _ rfl g #[.int .i64 4, .int .i64 0, .int .i64 0, .int .i64 0, .int .i64 0, .bool false] rfl rfl 41 _ V.out (cr_info _ rfl) rfl (cr_one _ _ _ _ _ _) ?_)
    exact bodyPost_ret (v := .agg #[.int .i64 4, .int .i64 0, .int .i64 0, .int .i64 0, .int .i64 0, .bool false]) (results_cell_row rfl _ _ g 41 _ _ _ rfl V2.out Try.underlying41 rfl (by kernel_rfl)) rfl ⟨by have e := hR.out.trans E.out; rw [e]; first | done | rfl, B2.out⟩
  obtain ⟨hk, -⟩ := hasN_yes hh
  obtain ⟨X, hX⟩ : ∃ X, X = cs.getD (lb cs x.c) zC := ⟨_, rfl⟩
  have EM := hid fun q => bu_made hf hu.out.symm hh hX q
  have ES := hid fun q => bu_same hf hu.out.symm hh hX q
  have EC : fcC cs x.c = 0 := by rw [fcC, if_neg (by simp [hf]), if_pos hh]
  have EL : fcL cs x.c = [X] := by rw [fcL, if_pos ⟨hf, hh⟩, hX]
  rw [EC]
  rw [EL] at RU ⊢
  replace hf := hid hf
  replace hh := hid hh
  replace hX := hid hX
  clear EC EL
  obtain ⟨a', cap', e, -, -, hcs⟩ := RU.out.parts
  cases e
  obtain ⟨b, o, rfl, q1⟩ := hcs 0 (by simp)
  simp only [List.getElem_cons_zero, Nat.zero_mul, Nat.add_zero] at q1
  obtain ⟨c0, c1, c2, c3⟩ := c_cells q1
  clear q1 hcs RU
  have I1 := idx_ci b o 1 ku 0 (by omega)
  simp only [Nat.zero_mul, Nat.add_zero] at I1
  have hA := below_alloc2 w3 (.cells #[.int .i64 0, .slice (some ⟨b, o, none⟩) 1 ku, .bool false] 79) (.cells #[.int .i64 X.n, .int .i64 X.i, .int .i64 X.s, .int .i64 X.m] 39)
  replace V := hid (var_below hA V.out)
  replace BB := hid (BB.out.trans (hA.mono BB.out.size))
  replace VB := hid (var_below hA VB.out)
  clear hA
  have k0 := cell_alloc c0 (.cells #[.int .i64 0, .slice (some ⟨b, o, none⟩) 1 ku, .bool false] 79)
  have k1 := cell_alloc c1 (.cells #[.int .i64 0, .slice (some ⟨b, o, none⟩) 1 ku, .bool false] 79)
  have k2 := cell_alloc c2 (.cells #[.int .i64 0, .slice (some ⟨b, o, none⟩) 1 ku, .bool false] 79)
  have k3 := cell_alloc c3 (.cells #[.int .i64 0, .slice (some ⟨b, o, none⟩) 1 ku, .bool false] 79)
  obtain ⟨⟨b0, b1, b2, b3, b4, b5, b6⟩, -⟩ := v7_facts VB.out
  by_cases qa : x.a = 3
  · by_cases qs : X.s = 1
    · by_cases qi : X.i = x.d
      · have E := hid (EM.out ⟨qa, qs, qi⟩)
        have na : (x.a == 3) = true := by simp [qa]
        have ns : (X.s == 1) = true := by simp [qs]
        have ni : (X.i == x.d) = true := by simp [qi]
        replace qa := hid qa
        replace qs := hid qs
        replace qi := hid qi
        clear EM ES
        go_wp2_with fail
        clear c0 c1 c2 c3 k0 k1 k2 k3 I1 b0 b1 b2 b3 b4 b5 b6
        refine (ttt 2 X true _).mono ?_
        rintro e w4 ⟨rfl, hB⟩
        replace V := hid (var_below hB V.out)
        replace BB := hid (BB.out.trans (hB.mono BB.out.size))
        clear hB VB
        rw [if_pos rfl]
        have V2 := hid (cr_row (new := #[.int .i64 0, .int .i64 X.n, .int .i64 X.i, .int .i64 2, .int .i64 X.m, .bool true]) V.out)
        have B2 := hid (cr_below (L := #[.int .i64 0, .int .i64 X.n, .int .i64 X.i, .int .i64 2, .int .i64 X.m, .bool true]) BB.out LG.out)
        go_wp2_with (first | fail | refine wpList_store_row rfl 41 _ _ rfl g #[.int .i64 0, .int .i64 X.n, .int .i64 X.i, .int .i64 2, .int .i64 X.m, .bool true] rfl rfl 41 _ V.out (cr_info _ rfl) rfl (cr_one _ _ _ _ _ _) ?_)
        exact bodyPost_ret (v := .agg #[.int .i64 0, .int .i64 X.n, .int .i64 X.i, .int .i64 2, .int .i64 X.m, .bool true]) (results_cell_row rfl _ _ g 41 _ _ _ rfl V2.out Try.underlying41 rfl (by kernel_rfl)) rfl ⟨by have e := hR.out.trans E.out; rw [e]; first | done | rfl, B2.out⟩
      · have E := hid (ES.out (fun q => qi q.2.2))
        have na : (x.a == 3) = true := by simp [qa]
        have ns : (X.s == 1) = true := by simp [qs]
        have ni : (X.i == x.d) = false := by simp [qi]
        replace qa := hid qa
        replace qs := hid qs
        replace qi := hid qi
        clear EM ES
        go_wp2_with fail
        clear c0 c1 c2 c3 k0 k1 k2 k3 I1 b0 b1 b2 b3 b4 b5 b6
        refine (ttt 2 X false _).mono ?_
        rintro e w4 ⟨rfl, hB⟩
        replace V := hid (var_below hB V.out)
        replace BB := hid (BB.out.trans (hB.mono BB.out.size))
        clear hB VB
        rw [if_neg (by decide)]
        have V2 := hid (cr_row (new := #[.int .i64 0, .int .i64 X.n, .int .i64 X.i, .int .i64 X.s, .int .i64 X.m, .bool false]) V.out)
        have B2 := hid (cr_below (L := #[.int .i64 0, .int .i64 X.n, .int .i64 X.i, .int .i64 X.s, .int .i64 X.m, .bool false]) BB.out LG.out)
        go_wp2_with (first | fail | refine wpList_store_row rfl 41 _ _ rfl g #[.int .i64 0, .int .i64 X.n, .int .i64 X.i, .int .i64 X.s, .int .i64 X.m, .bool false] rfl rfl 41 _ V.out (cr_info _ rfl) rfl (cr_one _ _ _ _ _ _) ?_)
        exact bodyPost_ret (v := .agg #[.int .i64 0, .int .i64 X.n, .int .i64 X.i, .int .i64 X.s, .int .i64 X.m, .bool false]) (results_cell_row rfl _ _ g 41 _ _ _ rfl V2.out Try.underlying41 rfl (by kernel_rfl)) rfl ⟨by have e := hR.out.trans E.out; rw [e]; first | done | rfl, B2.out⟩
    · have E := hid (ES.out (fun q => qs q.2.1))
      have na : (x.a == 3) = true := by simp [qa]
      have ns : (X.s == 1) = false := by simp [qs]
      replace qa := hid qa
      replace qs := hid qs
      clear EM ES
      go_wp2_with fail
      clear c0 c1 c2 c3 k0 k1 k2 k3 I1 b0 b1 b2 b3 b4 b5 b6
      refine (ttt 2 X false _).mono ?_
      rintro e w4 ⟨rfl, hB⟩
      replace V := hid (var_below hB V.out)
      replace BB := hid (BB.out.trans (hB.mono BB.out.size))
      clear hB VB
      rw [if_neg (by decide)]
      have V2 := hid (cr_row (new := #[.int .i64 0, .int .i64 X.n, .int .i64 X.i, .int .i64 X.s, .int .i64 X.m, .bool false]) V.out)
      have B2 := hid (cr_below (L := #[.int .i64 0, .int .i64 X.n, .int .i64 X.i, .int .i64 X.s, .int .i64 X.m, .bool false]) BB.out LG.out)
      go_wp2_with (first | fail | refine wpList_store_row rfl 41 _ _ rfl g #[.int .i64 0, .int .i64 X.n, .int .i64 X.i, .int .i64 X.s, .int .i64 X.m, .bool false] rfl rfl 41 _ V.out (cr_info _ rfl) rfl (cr_one _ _ _ _ _ _) ?_)
      exact bodyPost_ret (v := .agg #[.int .i64 0, .int .i64 X.n, .int .i64 X.i, .int .i64 X.s, .int .i64 X.m, .bool false]) (results_cell_row rfl _ _ g 41 _ _ _ rfl V2.out Try.underlying41 rfl (by kernel_rfl)) rfl ⟨by have e := hR.out.trans E.out; rw [e]; first | done | rfl, B2.out⟩
  · have E := hid (ES.out (fun q => qa q.1))
    have na : (x.a == 3) = false := by simp [qa]
    replace qa := hid qa
    clear EM ES
    go_wp2_with fail
    clear c0 c1 c2 c3 k0 k1 k2 k3 I1 b0 b1 b2 b3 b4 b5 b6
    refine (ttt 2 X false _).mono ?_
    rintro e w4 ⟨rfl, hB⟩
    replace V := hid (var_below hB V.out)
    replace BB := hid (BB.out.trans (hB.mono BB.out.size))
    clear hB VB
    rw [if_neg (by decide)]
    have V2 := hid (cr_row (new := #[.int .i64 0, .int .i64 X.n, .int .i64 X.i, .int .i64 X.s, .int .i64 X.m, .bool false]) V.out)
    have B2 := hid (cr_below (L := #[.int .i64 0, .int .i64 X.n, .int .i64 X.i, .int .i64 X.s, .int .i64 X.m, .bool false]) BB.out LG.out)
    go_wp2_with (first | fail | refine wpList_store_row rfl 41 _ _ rfl g #[.int .i64 0, .int .i64 X.n, .int .i64 X.i, .int .i64 X.s, .int .i64 X.m, .bool false] rfl rfl 41 _ V.out (cr_info _ rfl) rfl (cr_one _ _ _ _ _ _) ?_)
    exact bodyPost_ret (v := .agg #[.int .i64 0, .int .i64 X.n, .int .i64 X.i, .int .i64 X.s, .int .i64 X.m, .bool false]) (results_cell_row rfl _ _ g 41 _ _ _ rfl V2.out Try.underlying41 rfl (by kernel_rfl)) rfl ⟨by have e := hR.out.trans E.out; rw [e]; first | done | rfl, B2.out⟩
end Go.Proofs.Ytbleikbmnkjbeap.W
