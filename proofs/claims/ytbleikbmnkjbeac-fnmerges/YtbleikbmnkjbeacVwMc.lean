/-
  What MergeClaim of the model and of the program answers. Generated text.
-/
import Derived.Test.YtbleikbmnkjbeacVwMs
import Derived.Test.YtbleikbmnkjbeacVwMi
import Derived.Test.YtbleikbmnkjbeacVwV
import Derived.Test.YtbleikbmnkjbeacVwFx
namespace Go.Proofs.Ytbleikbmnkjbeac.W
open Go.ChangeShapes Go.WideShapes Go.ChangeAt Go.RowKit
open Go.Proofs.Ytbleikbmnkjbeac.M

/-- What is told of a claim that is merged. -/
def mcC (cs : List Clm) (c : Clm) : Int := if vF cs ≠ 0 then vF cs else clC c
def mcL (cs : List Clm) (c : Clm) : List Clm := if vF cs = 0 ∧ clC c = 0 then mrg cs c else []
def mcT (cs : List Clm) (c : Clm) : Bool := decide (vF cs = 0) && decide (clC c = 0) && mch cs c
theorem mc_no {cs : List Clm} {c : Clm} (h : mcC cs c ≠ 0) : mcL cs c = [] ∧ mcT cs c = false := by
  unfold mcC at h
  unfold mcL mcT
  by_cases q : vF cs = 0
  · rw [if_neg (by simpa using q)] at h
    exact ⟨if_neg (fun r => h r.2), by simp [q, h]⟩
  · exact ⟨if_neg (fun r => q r.1), by simp [q]⟩
theorem mc_yes {cs : List Clm} {c : Clm} (h : vF cs = 0) (h2 : clC c = 0) : mcC cs c = 0 ∧ mcL cs c = mrg cs c ∧ mcT cs c = mch cs c :=
  ⟨by rw [mcC, if_neg (by simpa using h), h2], if_pos ⟨h, h2⟩, by simp [mcT, h, h2]⟩
theorem mc_one (cs : List Clm) (c : Clm) : mT cs [c] 1 = mrg cs c ∧ mB cs [c] 1 = mch cs c := ⟨rfl, by simp [mB, mT]⟩
theorem RdC.one {w : World} {g : Nat} {c : Clm} {T : TypeId} (h : w.heap[g]? = some (.cells #[.int .i64 c.n, .int .i64 c.i, .int .i64 c.s, .int .i64 c.m] T)) : RdC w (.slice (some ⟨g, 0, none⟩) 1 1) [c] := rdC_one h
set_option maxHeartbeats 2000000 in
set_option maxRecDepth 100000 in
theorem smc (v : Value) (cs : List Clm) (c : Clm) (w : World) (h : RdC w v cs) :
    Calls Try.prog 52 #[v, .agg #[.int .i64 c.n, .int .i64 c.i, .int .i64 c.s, .int .i64 c.m]] w fun e w' => ∃ u, e = .returned (.agg #[.int .i64 (mcC cs c), u, .bool (mcT cs c)]) ∧ RdC w' u (mcL cs c) ∧ Below w.heap.size w w' := by
  have H := hid h
  obtain ⟨a, cap, rfl, -, -, -⟩ := h.parts
  clear h
  go_enter Try.func52, Try.ntmps52
  have VC := hid (heap_alloc2_old w (.cells #[.int .i64 c.n, .int .i64 c.i, .int .i64 c.s, .int .i64 c.m] 45) (.cells #[.int .i64 0, .slice none 0 0, .bool false] 75))
  have V := hid (heap_alloc2_new w (.cells #[.int .i64 c.n, .int .i64 c.i, .int .i64 c.s, .int .i64 c.m] 45) (.cells #[.int .i64 0, .slice none 0 0, .bool false] 75))
  have BB := hid (below_alloc2 w (.cells #[.int .i64 c.n, .int .i64 c.i, .int .i64 c.s, .int .i64 c.m] 45) (.cells #[.int .i64 0, .slice none 0 0, .bool false] 75))
  go_wp2_with fail
  generalize (w.alloc (.cells #[.int .i64 c.n, .int .i64 c.i, .int .i64 c.s, .int .i64 c.m] 45)).alloc (.cells #[.int .i64 0, .slice none 0 0, .bool false] 75) = w0 at *
  replace H := hid (H.out.below BB.out)
  have LT := hid (var_lt V.out)
  obtain ⟨g, hg⟩ : ∃ g, g = w.heap.size + 1 := ⟨_, rfl⟩
  rw [← hg] at V LT ⊢
  have GL := hid (show w.heap.size ≤ g by omega)
  clear hg
  obtain ⟨gc, hg⟩ : ∃ g, g = w.heap.size := ⟨_, rfl⟩
  rw [← hg] at VC ⊢
  clear hg
  refine (svf _ cs _ H.out).mono ?_
  rintro e w1 ⟨rfl, hB⟩
  replace V := hid (var_below hB V.out)
  replace VC := hid (var_below hB VC.out)
  replace H := hid (H.out.below hB)
  replace BB := hid (BB.out.trans (hB.mono BB.out.size))
  replace LT := hid (Nat.lt_of_lt_of_le LT.out hB.size)
  clear hB
  obtain ⟨t, ht⟩ : ∃ t, t = vF cs := ⟨_, rfl⟩
  rw [← ht]
  by_cases h0 : t = 0
  case neg =>
    have ne : (t != 0) = true := by rw [bne_iff_ne]; exact h0
    have E := hid (show mcC cs c = t by rw [mcC, if_pos (by rw [← ht]; exact h0), ht])
    have EL := hid (mc_no (cs := cs) (c := c) (by rw [E.out]; exact h0))
    obtain ⟨⟨z0, z1, z2⟩, z3, z4, z5⟩ := var3_facts V.out
    have HS := hid (var3_set (x' := .int .i64 t) (y' := .slice none 0 0) (z' := .bool false) V.out)
    have HW := hid (below_st3 (.int .i64 t) (.slice none 0 0) (.bool false) BB.out GL.out)
    clear ht h0
    go_wp2
    exact bodyPost_ret (v := .agg #[.int .i64 t, .slice none 0 0, .bool false]) (results_cell_row rfl _ _ g 75 _ _ _ rfl HS.out Try.underlying75 rfl (by kernel_rfl)) rfl ⟨_, by rw [E.out, EL.out.2], by rw [EL.out.1]; exact RdC.nil _, HW.out⟩
  subst h0
  have F0 := hid ht.symm
  have VO := hid (vF_ok ht.symm)
  clear ht
  obtain ⟨⟨v0, v1, v2, v3⟩, -⟩ := var4_facts VC.out
  go_wp2_with fail
  refine (sclf _ _ _ _ _).mono ?_
  rintro e w2 ⟨rfl, hB⟩
  replace V := hid (var_below hB V.out)
  replace VC := hid (var_below hB VC.out)
  replace H := hid (H.out.below hB)
  replace BB := hid (BB.out.trans (hB.mono BB.out.size))
  replace LT := hid (Nat.lt_of_lt_of_le LT.out hB.size)
  clear hB v0 v1 v2 v3
  obtain ⟨t, ht⟩ : ∃ t, t = clF c.n c.i c.s c.m := ⟨_, rfl⟩
  rw [← ht]
  by_cases h0 : t = 0
  case neg =>
    have ne : (t != 0) = true := by rw [bne_iff_ne]; exact h0
    have E := hid (show mcC cs c = t by rw [mcC, if_neg (by simpa using F0.out), ht]; rfl)
    have EL := hid (mc_no (cs := cs) (c := c) (by rw [E.out]; exact h0))
    obtain ⟨⟨z0, z1, z2⟩, z3, z4, z5⟩ := var3_facts V.out
    have HS := hid (var3_set (x' := .int .i64 t) (y' := .slice none 0 0) (z' := .bool false) V.out)
    have HW := hid (below_st3 (.int .i64 t) (.slice none 0 0) (.bool false) BB.out GL.out)
    clear ht h0
    go_wp2
    exact bodyPost_ret (v := .agg #[.int .i64 t, .slice none 0 0, .bool false]) (results_cell_row rfl _ _ g 75 _ _ _ rfl HS.out Try.underlying75 rfl (by kernel_rfl)) rfl ⟨_, by rw [E.out, EL.out.2], by rw [EL.out.1]; exact RdC.nil _, HW.out⟩
  subst h0
  have F1 := hid (show clC c = 0 from ht.symm)
  have E := hid (mc_yes F0.out F1.out)
  clear ht
  obtain ⟨⟨v0, v1, v2, v3⟩, -⟩ := var4_facts VC.out
  go_wp2_with fail
  refine (s8m _ cs c _ H.out VO.out.1 VO.out.2.2).mono ?_
  rintro e w3 ⟨u, rfl, hO, hB⟩
  replace V := hid (var_below hB V.out)
  replace BB := hid (BB.out.trans (hB.mono BB.out.size))
  have OO := hid (hO.mono (show g + 1 ≤ w2.heap.size from LT.out))
  clear hB hO v0 v1 v2 v3
  obtain ⟨l, hlx⟩ : ∃ l, l = mrg cs c := ⟨_, rfl⟩
  obtain ⟨t, ht⟩ : ∃ t, t = mch cs c := ⟨_, rfl⟩
  rw [← hlx] at OO
  rw [← ht]
  replace hlx := hid hlx
  replace ht := hid ht
  obtain ⟨pu, cu, rfl, -, -, -⟩ := OO.out.rd.parts
  obtain ⟨⟨z0, z1, z2⟩, z3, z4, z5⟩ := var3_facts V.out
  have HS := hid (var3_set (x' := .int .i64 0) (y' := .slice pu l.length cu) (z' := .bool t) V.out)
  have HW := hid (below_st3 (.int .i64 0) (.slice pu l.length cu) (.bool t) BB.out GL.out)
  have HO := hid (OO.out.st3 (Nat.lt_succ_self g) (.int .i64 0) (.slice pu l.length cu) (.bool t))
  clear OO
  go_wp2
  exact bodyPost_ret (v := .agg #[.int .i64 0, .slice pu l.length cu, .bool t]) (results_cell_row rfl _ _ g 75 _ _ _ rfl HS.out Try.underlying75 rfl (by kernel_rfl)) rfl ⟨_, by rw [E.out.1, E.out.2.2, ht.out], by rw [E.out.2.1, ← hlx.out]; exact HO.out.rd, HW.out⟩
set_option maxHeartbeats 2000000 in
set_option maxRecDepth 100000 in
theorem imc (v : Value) (cs : List Clm) (c : Clm) (w : World) (h : RdC w v cs) :
    Calls Try.prog 48 #[v, .agg #[.int .i64 c.n, .int .i64 c.i, .int .i64 c.s, .int .i64 c.m]] w fun e w' => ∃ u, e = .returned (.agg #[.int .i64 (mcC cs c), u, .bool (mcT cs c)]) ∧ OC w' w.heap.size w'.heap.size u (mcL cs c) ∧ Below w.heap.size w w' := by
  have H := hid h
  obtain ⟨a, cap, rfl, -, -, -⟩ := h.parts
  clear h
  go_enter Try.func48, Try.ntmps48
  have VC := hid (heap_alloc2_old w (.cells #[.int .i64 c.n, .int .i64 c.i, .int .i64 c.s, .int .i64 c.m] 45) (.cells #[.int .i64 0, .slice none 0 0, .bool false] 75))
  have V := hid (heap_alloc2_new w (.cells #[.int .i64 c.n, .int .i64 c.i, .int .i64 c.s, .int .i64 c.m] 45) (.cells #[.int .i64 0, .slice none 0 0, .bool false] 75))
  have BB := hid (below_alloc2 w (.cells #[.int .i64 c.n, .int .i64 c.i, .int .i64 c.s, .int .i64 c.m] 45) (.cells #[.int .i64 0, .slice none 0 0, .bool false] 75))
  go_wp2_with fail
  generalize (w.alloc (.cells #[.int .i64 c.n, .int .i64 c.i, .int .i64 c.s, .int .i64 c.m] 45)).alloc (.cells #[.int .i64 0, .slice none 0 0, .bool false] 75) = w0 at *
  replace H := hid (H.out.below BB.out)
  have LT := hid (var_lt V.out)
  obtain ⟨g, hg⟩ : ∃ g, g = w.heap.size + 1 := ⟨_, rfl⟩
  rw [← hg] at V LT ⊢
  have GL := hid (show w.heap.size ≤ g by omega)
  clear hg
  obtain ⟨gc, hg⟩ : ∃ g, g = w.heap.size := ⟨_, rfl⟩
  rw [← hg] at VC ⊢
  clear hg
  refine (ivf _ cs _ H.out).mono ?_
  rintro e w1 ⟨rfl, hB⟩
  replace V := hid (var_below hB V.out)
  replace VC := hid (var_below hB VC.out)
  replace H := hid (H.out.below hB)
  replace BB := hid (BB.out.trans (hB.mono BB.out.size))
  replace LT := hid (Nat.lt_of_lt_of_le LT.out hB.size)
  clear hB
  obtain ⟨t, ht⟩ : ∃ t, t = vF cs := ⟨_, rfl⟩
  rw [← ht]
  by_cases h0 : t = 0
  case neg =>
    have ne : (t != 0) = true := by rw [bne_iff_ne]; exact h0
    have E := hid (show mcC cs c = t by rw [mcC, if_pos (by rw [← ht]; exact h0), ht])
    have EL := hid (mc_no (cs := cs) (c := c) (by rw [E.out]; exact h0))
    obtain ⟨⟨z0, z1, z2⟩, z3, z4, z5⟩ := var3_facts V.out
    have HS := hid (var3_set (x' := .int .i64 t) (y' := .slice none 0 0) (z' := .bool false) V.out)
    have HW := hid (below_st3 (.int .i64 t) (.slice none 0 0) (.bool false) BB.out GL.out)
    clear ht h0
    go_wp2
    exact bodyPost_ret (v := .agg #[.int .i64 t, .slice none 0 0, .bool false]) (results_cell_row rfl _ _ g 75 _ _ _ rfl HS.out Try.underlying75 rfl (by kernel_rfl)) rfl ⟨_, by rw [E.out, EL.out.2], by rw [EL.out.1]; exact OC.nil _ _ _, HW.out⟩
  subst h0
  have F0 := hid ht.symm
  have VO := hid (vF_ok ht.symm)
  clear ht
  obtain ⟨⟨v0, v1, v2, v3⟩, -⟩ := var4_facts VC.out
  go_wp2_with fail
  refine (iclf _ _ _ _ _).mono ?_
  rintro e w2 ⟨rfl, hB⟩
  replace V := hid (var_below hB V.out)
  replace VC := hid (var_below hB VC.out)
  replace H := hid (H.out.below hB)
  replace BB := hid (BB.out.trans (hB.mono BB.out.size))
  replace LT := hid (Nat.lt_of_lt_of_le LT.out hB.size)
  clear hB v0 v1 v2 v3
  obtain ⟨t, ht⟩ : ∃ t, t = clF c.n c.i c.s c.m := ⟨_, rfl⟩
  rw [← ht]
  by_cases h0 : t = 0
  case neg =>
    have ne : (t != 0) = true := by rw [bne_iff_ne]; exact h0
    have E := hid (show mcC cs c = t by rw [mcC, if_neg (by simpa using F0.out), ht]; rfl)
    have EL := hid (mc_no (cs := cs) (c := c) (by rw [E.out]; exact h0))
    obtain ⟨⟨z0, z1, z2⟩, z3, z4, z5⟩ := var3_facts V.out
    have HS := hid (var3_set (x' := .int .i64 t) (y' := .slice none 0 0) (z' := .bool false) V.out)
    have HW := hid (below_st3 (.int .i64 t) (.slice none 0 0) (.bool false) BB.out GL.out)
    clear ht h0
    go_wp2
    exact bodyPost_ret (v := .agg #[.int .i64 t, .slice none 0 0, .bool false]) (results_cell_row rfl _ _ g 75 _ _ _ rfl HS.out Try.underlying75 rfl (by kernel_rfl)) rfl ⟨_, by rw [E.out, EL.out.2], by rw [EL.out.1]; exact OC.nil _ _ _, HW.out⟩
  subst h0
  have F1 := hid (show clC c = 0 from ht.symm)
  have E := hid (mc_yes F0.out F1.out)
  clear ht
  obtain ⟨⟨v0, v1, v2, v3⟩, -⟩ := var4_facts VC.out
  have B5 := hid (below_alloc1 w2 (.cells #[.int .i64 c.n, .int .i64 c.i, .int .i64 c.s, .int .i64 c.m] 45))
  have V5 := hid (heap_alloc_new w2 (.cells #[.int .i64 c.n, .int .i64 c.i, .int .i64 c.s, .int .i64 c.m] 45))
  go_wp2_with fail
  refine (imv _ _ cs [c] _ (H.out.below B5.out) (rdC_one V5.out) F0.out (fun x hx => by obtain rfl := List.mem_singleton.1 hx; exact F1.out) (by simp)).mono ?_
  rintro e w3 ⟨u, rfl, hO, hB⟩
  have B6 := hid (B5.out.trans (hB.mono B5.out.size))
  replace V := hid (var_below B6.out V.out)
  replace BB := hid (BB.out.trans (B6.out.mono BB.out.size))
  rw [show ([c] : List Clm).length = 1 from rfl, (mc_one cs c).1] at hO
  rw [show ([c] : List Clm).length = 1 from rfl, (mc_one cs c).2]
  have OO := hid (hO.mono (show g + 1 ≤ (w2.alloc (.cells #[.int .i64 c.n, .int .i64 c.i, .int .i64 c.s, .int .i64 c.m] 45)).heap.size + 1 from by have := LT.out; have := B5.out.size; omega))
  clear hB hO v0 v1 v2 v3 B5 V5 B6
  obtain ⟨l, hlx⟩ : ∃ l, l = mrg cs c := ⟨_, rfl⟩
  obtain ⟨t, ht⟩ : ∃ t, t = mch cs c := ⟨_, rfl⟩
  rw [← hlx] at OO
  rw [← ht]
  replace hlx := hid hlx
  replace ht := hid ht
  obtain ⟨pu, cu, rfl, -, -, -⟩ := OO.out.rd.parts
  obtain ⟨⟨z0, z1, z2⟩, z3, z4, z5⟩ := var3_facts V.out
  have HS := hid (var3_set (x' := .int .i64 0) (y' := .slice pu l.length cu) (z' := .bool t) V.out)
  have HW := hid (below_st3 (.int .i64 0) (.slice pu l.length cu) (.bool t) BB.out GL.out)
  have HO := hid (OO.out.st3 (Nat.lt_succ_self g) (.int .i64 0) (.slice pu l.length cu) (.bool t))
  clear OO
  go_wp2
  exact bodyPost_ret (v := .agg #[.int .i64 0, .slice pu l.length cu, .bool t]) (results_cell_row rfl _ _ g 75 _ _ _ rfl HS.out Try.underlying75 rfl (by kernel_rfl)) rfl ⟨_, by rw [E.out.1, E.out.2.2, ht.out], by rw [E.out.2.1, ← hlx.out]; exact OC.of (HO.out.mono (Nat.le_succ_of_le GL.out)), HW.out⟩
end Go.Proofs.Ytbleikbmnkjbeac.W
