/-
  What RefuteBy, SuspectBy and BuryBy answer: the program: RefuteBy.
-/
import Derived.Test.YtbleikbmnkjbeapCrJs
import Derived.Test.YtbleikbmnkjbeapCrT
import Derived.Test.YtbleikbmnkjbeapClfI
namespace Go.Proofs.Ytbleikbmnkjbeap.W
open Go.ChangeShapes Go.WideShapes Go.ChangeAt Go.RowKit
open Go.Proofs.Ytbleikbmnkjbeap.M

set_option maxHeartbeats 4000000 in
set_option maxRecDepth 100000 in
theorem iref (own c : Clm) (w : World) :
    Calls Try.prog 24 #[.agg #[.int .i64 own.n, .int .i64 own.i, .int .i64 own.s, .int .i64 own.m], .agg #[.int .i64 c.n, .int .i64 c.i, .int .i64 c.s, .int .i64 c.m]] w fun e w' => e = .returned (.agg #[.int .i64 (rfA own c).1, .int .i64 (rfA own c).2.1.n, .int .i64 (rfA own c).2.1.i, .int .i64 (rfA own c).2.1.s, .int .i64 (rfA own c).2.1.m, .bool (rfA own c).2.2]) ∧ Below w.heap.size w w' := by
  obtain ⟨R, hR⟩ : ∃ R, R = rfA own c := ⟨_, rfl⟩
  rw [← hR]
  replace hR := hid hR
  have VA := hid (var_alloc (.cells #[.int .i64 0, .int .i64 0, .int .i64 0, .int .i64 0, .int .i64 0, .bool false] 41) (var_alloc (.cells #[.int .i64 c.n, .int .i64 c.i, .int .i64 c.s, .int .i64 c.m] 39) (heap_alloc_new w (.cells #[.int .i64 own.n, .int .i64 own.i, .int .i64 own.s, .int .i64 own.m] 39))))
  have VC := hid (var_alloc (.cells #[.int .i64 0, .int .i64 0, .int .i64 0, .int .i64 0, .int .i64 0, .bool false] 41) (heap_alloc_new (w.alloc (.cells #[.int .i64 own.n, .int .i64 own.i, .int .i64 own.s, .int .i64 own.m] 39)) (.cells #[.int .i64 c.n, .int .i64 c.i, .int .i64 c.s, .int .i64 c.m] 39)))
  have V := hid (heap_alloc_new ((w.alloc (.cells #[.int .i64 own.n, .int .i64 own.i, .int .i64 own.s, .int .i64 own.m] 39)).alloc (.cells #[.int .i64 c.n, .int .i64 c.i, .int .i64 c.s, .int .i64 c.m] 39)) (.cells #[.int .i64 0, .int .i64 0, .int .i64 0, .int .i64 0, .int .i64 0, .bool false] 41))
  simp only [World.size_alloc] at VC V
  have BB := hid ((below_alloc2 w (.cells #[.int .i64 own.n, .int .i64 own.i, .int .i64 own.s, .int .i64 own.m] 39) (.cells #[.int .i64 c.n, .int .i64 c.i, .int .i64 c.s, .int .i64 c.m] 39)).trans ((below_alloc1 ((w.alloc (.cells #[.int .i64 own.n, .int .i64 own.i, .int .i64 own.s, .int .i64 own.m] 39)).alloc (.cells #[.int .i64 c.n, .int .i64 c.i, .int .i64 c.s, .int .i64 c.m] 39)) (.cells #[.int .i64 0, .int .i64 0, .int .i64 0, .int .i64 0, .int .i64 0, .bool false] 41)).mono (below_alloc2 w (.cells #[.int .i64 own.n, .int .i64 own.i, .int .i64 own.s, .int .i64 own.m] 39) (.cells #[.int .i64 c.n, .int .i64 c.i, .int .i64 c.s, .int .i64 c.m] 39)).size))
  go_enter Try.func24, Try.ntmps24
  have X0 : ∀ w : World, (Instr.index 74 (.agg #[.int .i64 own.n, .int .i64 own.i, .int .i64 own.s, .int .i64 own.m, .int .i64 c.n, .int .i64 c.i, .int .i64 c.s, .int .i64 c.m]) (.int .i64 0)).run Try.prog w = .ok (.agg #[.int .i64 own.n, .int .i64 own.i, .int .i64 own.s, .int .i64 own.m]) w := fun _ => by kernel_rfl
  have X1 : ∀ w : World, (Instr.index 74 (.agg #[.int .i64 own.n, .int .i64 own.i, .int .i64 own.s, .int .i64 own.m, .int .i64 c.n, .int .i64 c.i, .int .i64 c.s, .int .i64 c.m]) (.int .i64 1)).run Try.prog w = .ok (.agg #[.int .i64 c.n, .int .i64 c.i, .int .i64 c.s, .int .i64 c.m]) w := fun _ => by kernel_rfl
  go_wp2_with fail
  generalize ((w.alloc (.cells #[.int .i64 own.n, .int .i64 own.i, .int .i64 own.s, .int .i64 own.m] 39)).alloc (.cells #[.int .i64 c.n, .int .i64 c.i, .int .i64 c.s, .int .i64 c.m] 39)).alloc (.cells #[.int .i64 0, .int .i64 0, .int .i64 0, .int .i64 0, .int .i64 0, .bool false] 41) = w0 at *
  obtain ⟨g, hg⟩ : ∃ g, g = w.heap.size + 1 + 1 := ⟨_, rfl⟩
  rw [← hg] at V ⊢
  obtain ⟨gc, hgc⟩ : ∃ g, g = w.heap.size + 1 := ⟨_, rfl⟩
  rw [← hgc] at VC ⊢
  obtain ⟨ga, hga⟩ : ∃ g, g = w.heap.size := ⟨_, rfl⟩
  have LG := hid (show w.heap.size ≤ g by omega)
  have LA := hid (show w.heap.size ≤ ga ∧ g ≠ ga by omega)
  rw [← hga] at VA ⊢
  replace hg := hid hg
  replace hgc := hid hgc
  replace hga := hid hga
  refine wp_loop_rounds 3 ?_
  rw [rounds_succ]
  have hB := below_alloc1 w0 (.cells #[.int .i64 own.n, .int .i64 own.i, .int .i64 own.s, .int .i64 own.m] 39)
  replace VA := hid (var_below hB VA.out)
  replace VC := hid (var_below hB VC.out)
  replace V := hid (var_below hB V.out)
  replace BB := hid (BB.out.trans (hB.mono BB.out.size))
  clear hB
  go_wp2_with fail
  refine (iclf _ _ _ _ _).mono ?_
  rintro e w1 ⟨rfl, hB⟩
  replace VA := hid (var_below hB VA.out)
  replace VC := hid (var_below hB VC.out)
  replace V := hid (var_below hB V.out)
  replace BB := hid (BB.out.trans (hB.mono BB.out.size))
  clear hB
  obtain ⟨t, ht⟩ : ∃ t, t = clC own := ⟨_, rfl⟩
  rw [show clF own.n own.i own.s own.m = t from ht.symm]
  replace ht := hid ht
  by_cases h0 : t = 0
  case neg =>
    have E := hid (show rfA own c = (t, zC, false) by rw [rfA, if_pos (by rw [← ht.out]; exact h0), ← ht.out])
    have V2 := hid (cr_row (new := #[.int .i64 t, .int .i64 0, .int .i64 0, .int .i64 0, .int .i64 0, .bool false]) V.out)
    have B2 := hid (cr_below (L := #[.int .i64 t, .int .i64 0, .int .i64 0, .int .i64 0, .int .i64 0, .bool false]) BB.out LG.out)
    go_wp2_with (first | refine buildC rfl 41 _ rfl _ (cr_e0 (c := t) (by simp [Act.eval])) ?_ | refine wpList_store_row rfl 41 _ _ rfl g #[.int .i64 t, .int .i64 0, .int .i64 0, .int .i64 0, .int .i64 0, .bool false] rfl rfl 41 _ V.out (cr_info _ rfl) rfl (cr_one _ _ _ _ _ _) ?_)
    exact bodyPost_ret (v := .agg #[.int .i64 t, .int .i64 0, .int .i64 0, .int .i64 0, .int .i64 0, .bool false]) (results_cell_row rfl _ _ g 41 _ _ _ rfl V2.out Try.underlying41 rfl (by kernel_rfl)) rfl ⟨by have e := hR.out.trans E.out; rw [e]; first | done | rfl, B2.out⟩
  subst h0
  go_wp2
  rw [rounds_succ]
  have hB := below_alloc1 w1 (.cells #[.int .i64 c.n, .int .i64 c.i, .int .i64 c.s, .int .i64 c.m] 39)
  replace VA := hid (var_below hB VA.out)
  replace VC := hid (var_below hB VC.out)
  replace V := hid (var_below hB V.out)
  replace BB := hid (BB.out.trans (hB.mono BB.out.size))
  clear hB
  go_wp2_with fail
  refine (iclf _ _ _ _ _).mono ?_
  rintro e w2 ⟨rfl, hB⟩
  replace VA := hid (var_below hB VA.out)
  replace VC := hid (var_below hB VC.out)
  replace V := hid (var_below hB V.out)
  replace BB := hid (BB.out.trans (hB.mono BB.out.size))
  clear hB
  obtain ⟨u, hu⟩ : ∃ t, t = clC c := ⟨_, rfl⟩
  rw [show clF c.n c.i c.s c.m = u from hu.symm]
  replace hu := hid hu
  by_cases h0 : u = 0
  case neg =>
    have E := hid (show rfA own c = (u, zC, false) by rw [rfA, if_neg (by rw [← ht.out]; simp), if_pos (by rw [← hu.out]; exact h0), ← hu.out])
    have V2 := hid (cr_row (new := #[.int .i64 u, .int .i64 0, .int .i64 0, .int .i64 0, .int .i64 0, .bool false]) V.out)
    have B2 := hid (cr_below (L := #[.int .i64 u, .int .i64 0, .int .i64 0, .int .i64 0, .int .i64 0, .bool false]) BB.out LG.out)
    go_wp2_with (first | refine buildC rfl 41 _ rfl _ (cr_e0 (c := u) (by simp [Act.eval])) ?_ | refine wpList_store_row rfl 41 _ _ rfl g #[.int .i64 u, .int .i64 0, .int .i64 0, .int .i64 0, .int .i64 0, .bool false] rfl rfl 41 _ V.out (cr_info _ rfl) rfl (cr_one _ _ _ _ _ _) ?_)
    exact bodyPost_ret (v := .agg #[.int .i64 u, .int .i64 0, .int .i64 0, .int .i64 0, .int .i64 0, .bool false]) (results_cell_row rfl _ _ g 41 _ _ _ rfl V2.out Try.underlying41 rfl (by kernel_rfl)) rfl ⟨by have e := hR.out.trans E.out; rw [e]; first | done | rfl, B2.out⟩
  subst h0
  go_wp2
  rw [rounds_succ]
  by_cases hn : c.n = own.n
  case neg =>
    have E := hid (show rfA own c = (1, zC, false) by rw [rfA, if_neg (by rw [← ht.out]; simp), if_neg (by rw [← hu.out]; simp), if_pos hn])
    have n0 : (c.n != own.n) = true := by simp [hn]
    replace hn := hid hn
    obtain ⟨⟨a0, a1, a2, a3⟩, af0, af1, af2, af3⟩ := var4_factsC VA.out
    obtain ⟨⟨b0, b1, b2, b3⟩, -⟩ := var4_factsC VC.out
    have V2 := hid (cr_row (new := #[.int .i64 1, .int .i64 0, .int .i64 0, .int .i64 0, .int .i64 0, .bool false]) V.out)
    have B2 := hid (cr_below (L := #[.int .i64 1, .int .i64 0, .int .i64 0, .int .i64 0, .int .i64 0, .bool false]) BB.out LG.out)
    go_wp2_with (first | refine buildC rfl 41 _ rfl _ (cr_e0 (c := 1) (by simp [Act.eval])) ?_ | refine wpList_store_row rfl 41 _ _ rfl g #[.int .i64 1, .int .i64 0, .int .i64 0, .int .i64 0, .int .i64 0, .bool false] rfl rfl 41 _ V.out (cr_info _ rfl) rfl (cr_one _ _ _ _ _ _) ?_)
    exact bodyPost_ret (v := .agg #[.int .i64 1, .int .i64 0, .int .i64 0, .int .i64 0, .int .i64 0, .bool false]) (results_cell_row rfl _ _ g 41 _ _ _ rfl V2.out Try.underlying41 rfl (by kernel_rfl)) rfl ⟨by have e := hR.out.trans E.out; rw [e]; first | done | rfl, B2.out⟩
  have n0 : (c.n != own.n) = false := by simp [hn]
  replace hn := hid hn
  have HN := hid (show ¬ c.n ≠ own.n from fun q => q hn.out)
  obtain ⟨⟨a0, a1, a2, a3⟩, af0, af1, af2, af3⟩ := var4_factsC VA.out
  obtain ⟨⟨b0, b1, b2, b3⟩, -⟩ := var4_factsC VC.out
  go_wp2_with fail
  clear a0 a1 a2 a3 af0 af1 af2 af3 b0 b1 b2 b3
  clear n0
  refine (ibt c own _).mono ?_
  rintro e w5 ⟨rfl, hB⟩
  replace VA := hid (var_below hB VA.out)
  replace VC := hid (var_below hB VC.out)
  replace V := hid (var_below hB V.out)
  replace BB := hid (BB.out.trans (hB.mono BB.out.size))
  clear hB
  obtain ⟨b, hb⟩ : ∃ b, b = bC c own := ⟨_, rfl⟩
  rw [← hb]
  replace hb := hid hb
  cases b
  case false =>
    have E := hid (show rfA own c = (0, own, false) by rw [rfA, if_neg (by rw [← ht.out]; simp), if_neg (by rw [← hu.out]; simp), if_neg HN.out, if_pos hb.out.symm])
    obtain ⟨⟨a0, a1, a2, a3⟩, af0, af1, af2, af3⟩ := var4_factsC VA.out
    obtain ⟨⟨b0, b1, b2, b3⟩, -⟩ := var4_factsC VC.out
    have V2 := hid (cr_row (new := #[.int .i64 0, .int .i64 own.n, .int .i64 own.i, .int .i64 own.s, .int .i64 own.m, .bool false]) V.out)
    have B2 := hid (cr_below (L := #[.int .i64 0, .int .i64 own.n, .int .i64 own.i, .int .i64 own.s, .int .i64 own.m, .bool false]) BB.out LG.out)
    go_wp2_with (first | refine buildC rfl 41 _ rfl _ (cr_e1 (n := own.n) (i := own.i) (s := own.s) (m := own.m) (by simp [Act.eval])) ?_ | refine wpList_store_row rfl 41 _ _ rfl g #[.int .i64 0, .int .i64 own.n, .int .i64 own.i, .int .i64 own.s, .int .i64 own.m, .bool false] rfl rfl 41 _ V.out (cr_info _ rfl) rfl (cr_one _ _ _ _ _ _) ?_)
    exact bodyPost_ret (v := .agg #[.int .i64 0, .int .i64 own.n, .int .i64 own.i, .int .i64 own.s, .int .i64 own.m, .bool false]) (results_cell_row rfl _ _ g 41 _ _ _ rfl V2.out Try.underlying41 rfl (by kernel_rfl)) rfl ⟨by have e := hR.out.trans E.out; rw [e]; first | done | rfl, B2.out⟩
  have HB := hid (show ¬ bC c own = false by rw [← hb.out]; simp)
  obtain ⟨i0, i1⟩ := clC_i hu.out.symm
  by_cases hi : 1000000 ≤ c.i
  case pos =>
    have E := hid (show rfA own c = (7, zC, false) by rw [rfA, if_neg (by rw [← ht.out]; simp), if_neg (by rw [← hu.out]; simp), if_neg HN.out, if_neg HB.out, if_pos hi])
    have n1 : (c.i == 1000000) = true := by simp; omega
    replace hi := hid hi
    obtain ⟨⟨a0, a1, a2, a3⟩, af0, af1, af2, af3⟩ := var4_factsC VA.out
    obtain ⟨⟨b0, b1, b2, b3⟩, -⟩ := var4_factsC VC.out
    have V2 := hid (cr_row (new := #[.int .i64 7, .int .i64 0, .int .i64 0, .int .i64 0, .int .i64 0, .bool false]) V.out)
    have B2 := hid (cr_below (L := #[.int .i64 7, .int .i64 0, .int .i64 0, .int .i64 0, .int .i64 0, .bool false]) BB.out LG.out)
    go_wp2_with (first | refine buildC rfl 41 _ rfl _ (cr_e0 (c := 7) (by simp [Act.eval])) ?_ | refine wpList_store_row rfl 41 _ _ rfl g #[.int .i64 7, .int .i64 0, .int .i64 0, .int .i64 0, .int .i64 0, .bool false] rfl rfl 41 _ V.out (cr_info _ rfl) rfl (cr_one _ _ _ _ _ _) ?_)
    exact bodyPost_ret (v := .agg #[.int .i64 7, .int .i64 0, .int .i64 0, .int .i64 0, .int .i64 0, .bool false]) (results_cell_row rfl _ _ g 41 _ _ _ rfl V2.out Try.underlying41 rfl (by kernel_rfl)) rfl ⟨by have e := hR.out.trans E.out; rw [e]; first | done | rfl, B2.out⟩
  have E := hid (show rfA own c = (0, ⟨own.n, c.i + 1, 0, own.m⟩, true) by rw [rfA, if_neg (by rw [← ht.out]; simp), if_neg (by rw [← hu.out]; simp), if_neg HN.out, if_neg HB.out, if_neg hi])
  have n1 : (c.i == 1000000) = false := by simp; omega
  have VS := hid (var_setotherC (k := ga) (i := 1) (x := .int .i64 (c.i + 1)) V.out LA.out.2)
  have BS := hid (BB.out.setCell (p := ⟨ga, 1, none⟩) LA.out.1 (.int .i64 (c.i + 1)))
  obtain ⟨⟨a0, a1, a2, a3⟩, af0, af1, af2, af3⟩ := var4_factsC VA.out
  obtain ⟨⟨b0, b1, b2, b3⟩, -⟩ := var4_factsC VC.out
  go_wp2_with fail
  clear a0 a1 a2 a3 af0 af1 af2 af3 b0 b1 b2 b3
  refine (ttt 0 ⟨own.n, c.i + 1, own.s, own.m⟩ true _).mono ?_
  rintro e w6 ⟨rfl, hB⟩
  replace VS := hid (var_below hB VS.out)
  replace BS := hid (BS.out.trans (hB.mono BS.out.size))
  clear hB n1 V VA VC BB
  rw [if_pos rfl]
  have V2 := hid (cr_row (new := #[.int .i64 0, .int .i64 own.n, .int .i64 (c.i + 1), .int .i64 0, .int .i64 own.m, .bool true]) VS.out)
  have B2 := hid (cr_below (L := #[.int .i64 0, .int .i64 own.n, .int .i64 (c.i + 1), .int .i64 0, .int .i64 own.m, .bool true]) BS.out LG.out)
  go_wp2_with (first | fail | refine wpList_store_row rfl 41 _ _ rfl g #[.int .i64 0, .int .i64 own.n, .int .i64 (c.i + 1), .int .i64 0, .int .i64 own.m, .bool true] rfl rfl 41 _ VS.out (cr_info _ rfl) rfl (cr_one _ _ _ _ _ _) ?_)
  exact bodyPost_ret (v := .agg #[.int .i64 0, .int .i64 own.n, .int .i64 (c.i + 1), .int .i64 0, .int .i64 own.m, .bool true]) (results_cell_row rfl _ _ g 41 _ _ _ rfl V2.out Try.underlying41 rfl (by kernel_rfl)) rfl ⟨by have e := hR.out.trans E.out; rw [e]; first | done | rfl, B2.out⟩
end Go.Proofs.Ytbleikbmnkjbeap.W
