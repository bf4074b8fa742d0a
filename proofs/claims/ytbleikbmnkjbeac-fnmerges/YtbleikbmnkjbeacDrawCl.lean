/-
  The draws of claims. Generated text.
-/
import Derived.Test.YtbleikbmnkjbeacVwD
import Derived.Test.YtbleikbmnkjbeacChn
namespace Go.Proofs.Ytbleikbmnkjbeac.W
open Go.ChangeShapes Go.WideShapes Go.ChangeAt Go.RowKit
open Go.Proofs.Ytbleikbmnkjbeac.M

theorem results_cc {P : Program} {fn : Func} {p q : Tmp} {ty ty' : TypeId} (h : fn.results = #[.cell p ty, .cell q ty']) (tmps : Array Value) (w : World) (g g' : Nat) (t t' : TypeId) (cs cs' : Array Value) (fr fr' : Nat × Nat) (d d' : TypeDesc)
    (hp : tmps.getD p undef = .pointer (some ⟨g, 0, none⟩)) (hq : tmps.getD q undef = .pointer (some ⟨g', 0, none⟩)) (hg : w.heap[g]? = some (.cells cs t fr)) (hg' : w.heap[g']? = some (.cells cs' t' fr'))
    (hu : P.underlying ty = some d) (hd : (match d with | .struct _ | .array _ _ => true | _ => false) = true) (hi : (P.info? ty).map (·.size) = some cs.size)
    (hu' : P.underlying ty' = some d') (hd' : (match d' with | .struct _ | .array _ _ => true | _ => false) = true) (hi' : (P.info? ty').map (·.size) = some cs'.size) :
    (results fn tmps).run P w = .ok (.tuple #[.agg cs, .agg cs']) w := by
  have hp' : tmps[p]?.getD undef = .pointer (some ⟨g, 0, none⟩) := by simpa using hp
  have hq' : tmps[q]?.getD undef = .pointer (some ⟨g', 0, none⟩) := by simpa using hq
  simp [results, h, hp', hq', asAddr, run_loadVar_row w g t ty cs fr d hg hu hd hi, run_loadVar_row w g' t' ty' cs' fr' d' hg' hu' hd' hi']
/-- A claim is drawn. -/
theorem src_set {w0 w : World} {g V i : Nat} {v : Value} {l : List Nat} {t : Nat} (h : Src w0 w g v l t) (hne : g ≠ V) (hV : w0.heap.size ≤ V) (x : Value) : Src w0 (w.setCell ⟨V, i, none⟩ x) g v l t :=
  h.grown (show w.grownBy (w.setCell ⟨V, i, none⟩ x) (some V) from ⟨by simp [World.setCell], by simp [World.setCell], by simp [World.setCell], by simp, fun k hk hn => Below.heap_setCell _ _ _ _ (fun e => hn (by rw [e]))⟩) (fun e => hne (Option.some.inj e)) (fun k e => by cases e; exact hV)
theorem grown_set {w w' : World} {g V i : Nat} (h : w.grownBy w' (some g)) (hV : w.heap.size ≤ V) (x : Value) : w.grownBy (w'.setCell ⟨V, i, none⟩ x) (some g) :=
  ⟨by simpa [World.setCell] using h.os, by simpa [World.setCell] using h.tape, by simpa [World.setCell] using h.output, by simpa using h.size, fun k hk hn => by rw [Below.heap_setCell _ _ _ _ (by show k ≠ V; omega)]; exact h.block k hk hn⟩
theorem grown_alloc {w w' : World} {g : Nat} (h : w.grownBy w' (some g)) (x : Obj) : w.grownBy (w'.alloc x) (some g) :=
  grown_trans h (grown_of_below (below_alloc1 w' x) (some g))
set_option maxHeartbeats 2000000 in
set_option maxRecDepth 100000 in
theorem l7c (w0 w : World) (g : Nat) (v : Value) (l : List Nat) (t : Nat) (h : Src w0 w g v l t) (ht : t ≤ 900000) (hl : l.length ≤ 1048576) :
    Calls Try.prog 105 #[.pointer (some ⟨g, 0, none⟩)] w fun e w' => ∃ c : Clm, e = .returned (.agg #[.int .i64 c.n, .int .i64 c.i, .int .i64 c.s, .int .i64 c.m]) ∧ Src w0 w' g v l (t + 4) ∧ w.grownBy w' (some g) := by
  have GV := hid (show g < w.heap.size from var_lt h.cells)
  have NV := hid (show w0.heap.size ≤ w.heap.size from h.bel.size)
  have S := hid (h.later (below_alloc1 w (.cells #[.int .i64 0, .int .i64 0, .int .i64 0, .int .i64 0] 45)))
  have V := hid (heap_alloc_new w (.cells #[.int .i64 0, .int .i64 0, .int .i64 0, .int .i64 0] 45))
  have G := hid (grown_of_below (below_alloc1 w (.cells #[.int .i64 0, .int .i64 0, .int .i64 0, .int .i64 0] 45)) (some g))
  clear h
  go_enter Try.func105, Try.ntmps105
  go_wp2_with fail
  generalize w.alloc (.cells #[.int .i64 0, .int .i64 0, .int .i64 0, .int .i64 0] 45) = x0 at *
  obtain ⟨gv, hgv⟩ : ∃ q, q = w.heap.size := ⟨_, rfl⟩
  rw [← hgv] at V GV NV ⊢
  have GW := hid (show w.heap.size ≤ gv by omega)
  clear hgv
  refine (next w0 x0 g v l t 4 S.out (by omega) (by omega) hl).mono ?_
  rintro e x1 ⟨r0, rfl, -, hS, hG⟩
  replace S := hid hS
  replace V := hid (var_grown hG V.out (fun e => by have := Option.some.inj e; have := GV.out; omega))
  replace G := hid (grown_trans G.out hG)
  clear hS hG
  have VL := hid (show Lst (x1.alloc (.cells #[.int .i64 0, .int .i64 1, .int .i64 2, .int .i64 3, .int .i64 1000000] 2)) x1.heap.size [0, 1, 2, 3, 1000000] from heap_alloc_new x1 (.cells #[.int .i64 0, .int .i64 1, .int .i64 2, .int .i64 3, .int .i64 1000000] 2))
  have BA := hid (below_alloc1 x1 (.cells #[.int .i64 0, .int .i64 1, .int .i64 2, .int .i64 3, .int .i64 1000000] 2))
  have NG := hid (show x1.heap.size ≠ g by have := G.out.size; have := var_lt S.out.cells; omega)
  replace S := hid (S.out.later BA.out)
  replace V := hid (var_below BA.out V.out)
  replace G := hid (grown_alloc G.out (.cells #[.int .i64 0, .int .i64 1, .int .i64 2, .int .i64 3, .int .i64 1000000] 2))
  go_wp2_with fail
  refine (pick' w0 _ g x1.heap.size 5 v l _ [0, 1, 2, 3, 1000000] S.out (by omega) hl VL.out NG.out rfl (by omega) (by omega)).mono ?_
  rintro e x2 ⟨r1, -, rfl, hS, hG⟩
  clear VL BA NG
  replace S := hid hS
  replace V := hid (var_grown hG V.out (fun e => by have := Option.some.inj e; have := GV.out; omega))
  replace G := hid (grown_trans G.out hG)
  clear hS hG
  go_wp2_with fail
  refine (next w0 _ g v l _ 3 S.out (by omega) (by omega) hl).mono ?_
  rintro e x3 ⟨r2, rfl, -, hS, hG⟩
  replace S := hid hS
  replace V := hid (var_grown hG V.out (fun e => by have := Option.some.inj e; have := GV.out; omega))
  replace G := hid (grown_trans G.out hG)
  clear hS hG
  have VL := hid (show Lst (x3.alloc (.cells #[.int .i64 0, .int .i64 80, .int .i64 65616, .int .i64 9999999] 2)) x3.heap.size [0, 80, 65616, 9999999] from heap_alloc_new x3 (.cells #[.int .i64 0, .int .i64 80, .int .i64 65616, .int .i64 9999999] 2))
  have BA := hid (below_alloc1 x3 (.cells #[.int .i64 0, .int .i64 80, .int .i64 65616, .int .i64 9999999] 2))
  have NG := hid (show x3.heap.size ≠ g by have := G.out.size; have := var_lt S.out.cells; omega)
  replace S := hid (S.out.later BA.out)
  replace V := hid (var_below BA.out V.out)
  replace G := hid (grown_alloc G.out (.cells #[.int .i64 0, .int .i64 80, .int .i64 65616, .int .i64 9999999] 2))
  go_wp2_with fail
  refine (pick' w0 _ g x3.heap.size 4 v l _ [0, 80, 65616, 9999999] S.out (by omega) hl VL.out NG.out rfl (by omega) (by omega)).mono ?_
  rintro e x4 ⟨r3, -, rfl, hS, hG⟩
  clear VL BA NG
  replace S := hid hS
  replace V := hid (var_grown hG V.out (fun e => by have := Option.some.inj e; have := GV.out; omega))
  replace G := hid (grown_trans G.out hG)
  clear hS hG
  obtain ⟨⟨z0, z1, z2, z3⟩, z4, z5, z6, z7⟩ := var4_facts V.out
  have GN := GV.out
  have HS := hid (var4_set (x' := .int .i64 r0) (y' := .int .i64 r1) (z' := .int .i64 r2) (u' := .int .i64 r3) V.out)
  have SS := hid (src_set (i := 3) (src_set (i := 2) (src_set (i := 1) (src_set (i := 0) S.out (by omega) NV.out (.int .i64 r0)) (by omega) NV.out (.int .i64 r1)) (by omega) NV.out (.int .i64 r2)) (by omega) NV.out (.int .i64 r3))
  have GG := hid (grown_set (i := 3) (grown_set (i := 2) (grown_set (i := 1) (grown_set (i := 0) G.out GW.out (.int .i64 r0)) GW.out (.int .i64 r1)) GW.out (.int .i64 r2)) GW.out (.int .i64 r3))
  clear S G GN
  go_wp2
  exact bodyPost_ret (v := .agg #[.int .i64 r0, .int .i64 r1, .int .i64 r2, .int .i64 r3]) (results_cell_row rfl _ _ gv 45 _ _ _ rfl HS.out Try.underlying45 rfl (by kernel_rfl)) rfl ⟨⟨r0, r1, r2, r3⟩, rfl, SS.out, GG.out⟩
set_option maxHeartbeats 2000000 in
set_option maxRecDepth 100000 in
theorem drBt (v : Value) (l : List Nat) (w : World) (h : Rd w v l) (y : Byt l) (hl : l.length ≤ 1048576) :
    Calls Try.prog 41 #[v] w fun e w' => ∃ a b : Clm, e = .returned (.tuple #[.agg #[.int .i64 a.n, .int .i64 a.i, .int .i64 a.s, .int .i64 a.m], .agg #[.int .i64 b.n, .int .i64 b.i, .int .i64 b.s, .int .i64 b.m]]) ∧ Below w.heap.size w w' := by
  have RC := hid h
  obtain ⟨q, cap, rfl, -, -, -⟩ := h.parts
  clear h
  go_enter Try.func41, Try.ntmps41
  have VA := hid (heap_alloc2_old w (.cells #[.int .i64 0, .int .i64 0, .int .i64 0, .int .i64 0] 45) (.cells #[.int .i64 0, .int .i64 0, .int .i64 0, .int .i64 0] 45))
  have VB := hid (heap_alloc2_new w (.cells #[.int .i64 0, .int .i64 0, .int .i64 0, .int .i64 0] 45) (.cells #[.int .i64 0, .int .i64 0, .int .i64 0, .int .i64 0] 45))
  have BB := hid (below_alloc2 w (.cells #[.int .i64 0, .int .i64 0, .int .i64 0, .int .i64 0] 45) (.cells #[.int .i64 0, .int .i64 0, .int .i64 0, .int .i64 0] 45))
  have SZ := hid (show w.heap.size + 1 < ((w.alloc (.cells #[.int .i64 0, .int .i64 0, .int .i64 0, .int .i64 0] 45)).alloc (.cells #[.int .i64 0, .int .i64 0, .int .i64 0, .int .i64 0] 45)).heap.size by simp)
  go_wp2_with fail
  generalize (w.alloc (.cells #[.int .i64 0, .int .i64 0, .int .i64 0, .int .i64 0] 45)).alloc (.cells #[.int .i64 0, .int .i64 0, .int .i64 0, .int .i64 0] 45) = w0 at *
  obtain ⟨gb, hgb⟩ : ∃ g, g = w.heap.size + 1 := ⟨_, rfl⟩
  rw [← hgb] at VB SZ ⊢
  have GB := hid (show w.heap.size ≤ gb by omega)
  have NB := hid (show w.heap.size ≠ gb by omega)
  clear hgb
  obtain ⟨ga, hga⟩ : ∃ g, g = w.heap.size := ⟨_, rfl⟩
  rw [← hga] at VA NB ⊢
  have GA := hid (show w.heap.size ≤ ga by omega)
  have LA := hid (show ga < w0.heap.size from var_lt VA.out)
  clear hga
  refine (source _ l w0 (RC.out.below BB.out) y).mono ?_
  rintro e w1 ⟨rfl, hS⟩
  have S := hid hS
  replace VA := hid (var_below hS.bel VA.out)
  replace VB := hid (var_below hS.bel VB.out)
  clear hS
  obtain ⟨gs, hgs⟩ : ∃ g, g = w0.heap.size := ⟨_, rfl⟩
  rw [← hgs] at S LA SZ ⊢
  have GS := hid (show w0.heap.size ≤ gs by omega)
  clear hgs
  go_wp2_with fail
  refine (l7c w0 w1 gs _ l 0 S.out (by omega) hl).mono ?_
  rintro e w2 ⟨a, rfl, hS, hG⟩
  replace S := hid hS
  replace VA := hid (var_grown hG VA.out (fun e => by have := Option.some.inj e; have := LA.out; omega))
  replace VB := hid (var_grown hG VB.out (fun e => by have := Option.some.inj e; have := SZ.out; omega))
  clear hS hG
  go_wp2_with fail
  refine (l7c w0 w2 gs _ l _ S.out (by omega) hl).mono ?_
  rintro e w3 ⟨b, rfl, hS, hG⟩
  replace S := hid hS
  replace VA := hid (var_grown hG VA.out (fun e => by have := Option.some.inj e; have := LA.out; omega))
  replace VB := hid (var_grown hG VB.out (fun e => by have := Option.some.inj e; have := SZ.out; omega))
  clear hS hG
  replace BB := hid (BB.out.trans (S.out.bel.mono BB.out.size))
  obtain ⟨⟨z0, z1, z2, z3⟩, z4, z5, z6, z7⟩ := var4_facts VA.out
  obtain ⟨⟨u0, u1, u2, u3⟩, u4, u5, u6, u7⟩ := var4_facts VB.out
  have HA := var4_set (x' := .int .i64 a.n) (y' := .int .i64 a.i) (z' := .int .i64 a.s) (u' := .int .i64 a.m) VA.out
  have HB0 := var_grown (st4_grown w3 ga 0 a) VB.out (fun e => NB.out (Option.some.inj e).symm)
  have HB := hid (var4_set (x' := .int .i64 b.n) (y' := .int .i64 b.i) (z' := .int .i64 b.s) (u' := .int .i64 b.m) HB0)
  have HA2 := hid (var_grown (st4_grown _ gb 0 b) HA (fun e => NB.out (Option.some.inj e)))
  have BN := hid ((BB.out.grown (st4_grown w3 ga 0 a) BB.out.size (fun k e => by cases e; exact GA.out)).grown (st4_grown _ gb 0 b) (by have := BB.out.size; simp [st4]; omega) (fun k e => by cases e; exact GB.out))
  unfold st4 at HB HA2 BN
  simp only [Nat.zero_add] at HB HA2 BN
  obtain ⟨⟨k0, k1, k2, k3⟩, k4, k5, k6, k7⟩ := var4_facts HB0
  unfold st4 at k0 k1 k2 k3 k4 k5 k6 k7
  simp only [Nat.zero_add] at k0 k1 k2 k3 k4 k5 k6 k7
  clear HA HB0 S BB VA VB
  go_wp2
  exact bodyPost_ret (v := .tuple #[.agg #[.int .i64 a.n, .int .i64 a.i, .int .i64 a.s, .int .i64 a.m], .agg #[.int .i64 b.n, .int .i64 b.i, .int .i64 b.s, .int .i64 b.m]]) (results_cc rfl _ _ ga gb 45 45 _ _ _ _ _ _ rfl rfl HA2.out HB.out Try.underlying45 rfl (by kernel_rfl) Try.underlying45 rfl (by kernel_rfl)) rfl ⟨a, b, rfl, BN.out⟩
set_option maxHeartbeats 4000000 in
set_option maxRecDepth 100000 in
theorem drCf (v : Value) (l : List Nat) (w : World) (h : Rd w v l) (y : Byt l) (hl : l.length ≤ 1048576) :
    Calls Try.prog 42 #[v] w fun e w' => ∃ c : Clm, e = .returned (.agg #[.int .i64 c.n, .int .i64 c.i, .int .i64 c.s, .int .i64 c.m]) ∧ Below w.heap.size w w' := by
  have RC := hid h
  obtain ⟨q, cap, rfl, -, -, -⟩ := h.parts
  clear h
  go_enter Try.func42, Try.ntmps42
  have VA := hid (heap_alloc_new w (.cells #[.int .i64 0, .int .i64 0, .int .i64 0, .int .i64 0] 45))
  have BB := hid (below_alloc1 w (.cells #[.int .i64 0, .int .i64 0, .int .i64 0, .int .i64 0] 45))
  go_wp2_with fail
  generalize w.alloc (.cells #[.int .i64 0, .int .i64 0, .int .i64 0, .int .i64 0] 45) = w0 at *
  obtain ⟨ga, hga⟩ : ∃ g, g = w.heap.size := ⟨_, rfl⟩
  rw [← hga] at VA ⊢
  have GA := hid (show w.heap.size ≤ ga by omega)
  have LA := hid (show ga < w0.heap.size from var_lt VA.out)
  clear hga
  refine (source _ l w0 (RC.out.below BB.out) y).mono ?_
  rintro e w1 ⟨rfl, hS⟩
  have S := hid hS
  replace VA := hid (var_below hS.bel VA.out)
  clear hS
  obtain ⟨gs, hgs⟩ : ∃ g, g = w0.heap.size := ⟨_, rfl⟩
  rw [← hgs] at S LA ⊢
  have GS := hid (show w0.heap.size ≤ gs by omega)
  clear hgs
  go_wp2_with fail
  refine (l7c w0 w1 gs _ l 0 S.out (by omega) hl).mono ?_
  rintro e w2 ⟨c, rfl, hS, hG⟩
  replace S := hid hS
  replace VA := hid (var_grown hG VA.out (fun e => by have := Option.some.inj e; have := LA.out; omega))
  clear hS hG
  have VC := hid (heap_alloc_new w2 (.cells #[.int .i64 c.n, .int .i64 c.i, .int .i64 c.s, .int .i64 c.m] 45))
  have BC := hid (below_alloc1 w2 (.cells #[.int .i64 c.n, .int .i64 c.i, .int .i64 c.s, .int .i64 c.m] 45))
  replace VA := hid (var_below BC.out VA.out)
  have LS := hid (show gs < w2.heap.size from var_lt S.out.cells)
  replace S := hid (S.out.later BC.out)
  go_wp2_with fail
  generalize w2.alloc (.cells #[.int .i64 c.n, .int .i64 c.i, .int .i64 c.s, .int .i64 c.m] 45) = w3 at *
  obtain ⟨gc, hgc⟩ : ∃ g, g = w2.heap.size := ⟨_, rfl⟩
  rw [← hgc] at VC LS ⊢
  clear hgc BC
  refine (next w0 w3 gs _ l _ 9 S.out (by omega) (by omega) hl).mono ?_
  rintro e w4 ⟨r, rfl, -, hS, hG⟩
  replace S := hid hS
  replace VA := hid (var_grown hG VA.out (fun e => by have := Option.some.inj e; have := LA.out; omega))
  replace VC := hid (var_grown hG VC.out (fun e => by have := Option.some.inj e; have := LS.out; omega))
  clear hS hG
  have NA := hid (show ga ≠ gc by have := LA.out; have := LS.out; omega)
  have GC := hid (show w.heap.size ≤ gc by have := GA.out; have := LA.out; have := LS.out; omega)
  by_cases r0 : r = 0
  · subst r0
    have VL := hid (show Lst (w4.alloc (.cells #[.int .i64 (-1), .int .i64 4] 2)) w4.heap.size [-1, 4] from heap_alloc_new w4 (.cells #[.int .i64 (-1), .int .i64 4] 2))
    have BA := hid (below_alloc1 w4 (.cells #[.int .i64 (-1), .int .i64 4] 2))
    have NG := hid (show w4.heap.size ≠ gs by have := var_lt S.out.cells; omega)
    replace S := hid (S.out.later BA.out)
    replace VA := hid (var_below BA.out VA.out)
    replace VC := hid (var_below BA.out VC.out)
    go_wp2_with fail
    refine (pick' w0 _ gs w4.heap.size 2 _ l _ [-1, 4] S.out (by omega) hl VL.out NG.out rfl (by omega) (by omega)).mono ?_
    rintro e w5 ⟨x, -, rfl, hS, hG⟩
    replace VA := hid (var_grown hG VA.out (fun e => by have := Option.some.inj e; have := LA.out; omega))
    replace VC := hid (var_grown hG VC.out (fun e => by have := Option.some.inj e; have := LS.out; omega))
    replace BB := hid (BB.out.trans (hS.bel.mono BB.out.size))
    clear hS hG S VL BA NG
    obtain ⟨⟨d0, d1, d2, d3⟩, d4, d5, d6, d7⟩ := var4_facts VC.out
    have HC : (w5.setCell ⟨gc, 0, none⟩ (.int .i64 x)).heap[gc]? = some (.cells #[.int .i64 x, .int .i64 c.i, .int .i64 c.s, .int .i64 c.m] 45) := by simpa using heap_setCell_same w5 gc 0 _ _ (.int .i64 x) VC.out
    obtain ⟨⟨f0, f1, f2, f3⟩, -⟩ := var4_facts HC
    have HV := var_grown (set_grown w5 gc 0 (.int .i64 x)) VA.out (fun e => NA.out (Option.some.inj e))
    obtain ⟨⟨z0, z1, z2, z3⟩, z4, z5, z6, z7⟩ := var4_facts HV
    have HS := hid (var4_set (x' := .int .i64 x) (y' := .int .i64 c.i) (z' := .int .i64 c.s) (u' := .int .i64 c.m) HV)
    have BN := hid ((BB.out.setCell (p := ⟨gc, 0, none⟩) GC.out (.int .i64 x)).grown (st4_grown _ ga 0 ⟨x, c.i, c.s, c.m⟩) (by have := BB.out.size; simp; omega) (fun k e => by cases e; exact GA.out))
    unfold st4 at BN
    simp only [Nat.zero_add] at BN
    clear HC HV BB VA VC
    go_wp2
    exact bodyPost_ret (v := .agg #[.int .i64 x, .int .i64 c.i, .int .i64 c.s, .int .i64 c.m]) (results_cell_row rfl _ _ ga 45 _ _ _ rfl HS.out Try.underlying45 rfl (by kernel_rfl)) rfl ⟨⟨x, c.i, c.s, c.m⟩, rfl, BN.out⟩
  by_cases r1 : r = 1
  · subst r1
    have VL := hid (show Lst (w4.alloc (.cells #[.int .i64 (-1), .int .i64 1000001] 2)) w4.heap.size [-1, 1000001] from heap_alloc_new w4 (.cells #[.int .i64 (-1), .int .i64 1000001] 2))
    have BA := hid (below_alloc1 w4 (.cells #[.int .i64 (-1), .int .i64 1000001] 2))
    have NG := hid (show w4.heap.size ≠ gs by have := var_lt S.out.cells; omega)
    replace S := hid (S.out.later BA.out)
    replace VA := hid (var_below BA.out VA.out)
    replace VC := hid (var_below BA.out VC.out)
    go_wp2_with fail
    refine (pick' w0 _ gs w4.heap.size 2 _ l _ [-1, 1000001] S.out (by omega) hl VL.out NG.out rfl (by omega) (by omega)).mono ?_
    rintro e w5 ⟨x, -, rfl, hS, hG⟩
    replace VA := hid (var_grown hG VA.out (fun e => by have := Option.some.inj e; have := LA.out; omega))
    replace VC := hid (var_grown hG VC.out (fun e => by have := Option.some.inj e; have := LS.out; omega))
    replace BB := hid (BB.out.trans (hS.bel.mono BB.out.size))
    clear hS hG S VL BA NG
    obtain ⟨⟨d0, d1, d2, d3⟩, d4, d5, d6, d7⟩ := var4_facts VC.out
    have HC : (w5.setCell ⟨gc, 1, none⟩ (.int .i64 x)).heap[gc]? = some (.cells #[.int .i64 c.n, .int .i64 x, .int .i64 c.s, .int .i64 c.m] 45) := by simpa using heap_setCell_same w5 gc 1 _ _ (.int .i64 x) VC.out
    obtain ⟨⟨f0, f1, f2, f3⟩, -⟩ := var4_facts HC
    have HV := var_grown (set_grown w5 gc 1 (.int .i64 x)) VA.out (fun e => NA.out (Option.some.inj e))
    obtain ⟨⟨z0, z1, z2, z3⟩, z4, z5, z6, z7⟩ := var4_facts HV
    have HS := hid (var4_set (x' := .int .i64 c.n) (y' := .int .i64 x) (z' := .int .i64 c.s) (u' := .int .i64 c.m) HV)
    have BN := hid ((BB.out.setCell (p := ⟨gc, 1, none⟩) GC.out (.int .i64 x)).grown (st4_grown _ ga 0 ⟨c.n, x, c.s, c.m⟩) (by have := BB.out.size; simp; omega) (fun k e => by cases e; exact GA.out))
    unfold st4 at BN
    simp only [Nat.zero_add] at BN
    clear HC HV BB VA VC
    go_wp2
    exact bodyPost_ret (v := .agg #[.int .i64 c.n, .int .i64 x, .int .i64 c.s, .int .i64 c.m]) (results_cell_row rfl _ _ ga 45 _ _ _ rfl HS.out Try.underlying45 rfl (by kernel_rfl)) rfl ⟨⟨c.n, x, c.s, c.m⟩, rfl, BN.out⟩
  by_cases r2 : r = 2
  · subst r2
    have VL := hid (show Lst (w4.alloc (.cells #[.int .i64 (-1), .int .i64 3] 2)) w4.heap.size [-1, 3] from heap_alloc_new w4 (.cells #[.int .i64 (-1), .int .i64 3] 2))
    have BA := hid (below_alloc1 w4 (.cells #[.int .i64 (-1), .int .i64 3] 2))
    have NG := hid (show w4.heap.size ≠ gs by have := var_lt S.out.cells; omega)
    replace S := hid (S.out.later BA.out)
    replace VA := hid (var_below BA.out VA.out)
    replace VC := hid (var_below BA.out VC.out)
    go_wp2_with fail
    refine (pick' w0 _ gs w4.heap.size 2 _ l _ [-1, 3] S.out (by omega) hl VL.out NG.out rfl (by omega) (by omega)).mono ?_
    rintro e w5 ⟨x, -, rfl, hS, hG⟩
    replace VA := hid (var_grown hG VA.out (fun e => by have := Option.some.inj e; have := LA.out; omega))
    replace VC := hid (var_grown hG VC.out (fun e => by have := Option.some.inj e; have := LS.out; omega))
    replace BB := hid (BB.out.trans (hS.bel.mono BB.out.size))
    clear hS hG S VL BA NG
    obtain ⟨⟨d0, d1, d2, d3⟩, d4, d5, d6, d7⟩ := var4_facts VC.out
    have HC : (w5.setCell ⟨gc, 2, none⟩ (.int .i64 x)).heap[gc]? = some (.cells #[.int .i64 c.n, .int .i64 c.i, .int .i64 x, .int .i64 c.m] 45) := by simpa using heap_setCell_same w5 gc 2 _ _ (.int .i64 x) VC.out
    obtain ⟨⟨f0, f1, f2, f3⟩, -⟩ := var4_facts HC
    have HV := var_grown (set_grown w5 gc 2 (.int .i64 x)) VA.out (fun e => NA.out (Option.some.inj e))
    obtain ⟨⟨z0, z1, z2, z3⟩, z4, z5, z6, z7⟩ := var4_facts HV
    have HS := hid (var4_set (x' := .int .i64 c.n) (y' := .int .i64 c.i) (z' := .int .i64 x) (u' := .int .i64 c.m) HV)
    have BN := hid ((BB.out.setCell (p := ⟨gc, 2, none⟩) GC.out (.int .i64 x)).grown (st4_grown _ ga 0 ⟨c.n, c.i, x, c.m⟩) (by have := BB.out.size; simp; omega) (fun k e => by cases e; exact GA.out))
    unfold st4 at BN
    simp only [Nat.zero_add] at BN
    clear HC HV BB VA VC
    go_wp2
    exact bodyPost_ret (v := .agg #[.int .i64 c.n, .int .i64 c.i, .int .i64 x, .int .i64 c.m]) (results_cell_row rfl _ _ ga 45 _ _ _ rfl HS.out Try.underlying45 rfl (by kernel_rfl)) rfl ⟨⟨c.n, c.i, x, c.m⟩, rfl, BN.out⟩
  by_cases r3 : r = 3
  · subst r3
    have VL := hid (show Lst (w4.alloc (.cells #[.int .i64 (-1), .int .i64 10000000] 2)) w4.heap.size [-1, 10000000] from heap_alloc_new w4 (.cells #[.int .i64 (-1), .int .i64 10000000] 2))
    have BA := hid (below_alloc1 w4 (.cells #[.int .i64 (-1), .int .i64 10000000] 2))
    have NG := hid (show w4.heap.size ≠ gs by have := var_lt S.out.cells; omega)
    replace S := hid (S.out.later BA.out)
    replace VA := hid (var_below BA.out VA.out)
    replace VC := hid (var_below BA.out VC.out)
    go_wp2_with fail
    refine (pick' w0 _ gs w4.heap.size 2 _ l _ [-1, 10000000] S.out (by omega) hl VL.out NG.out rfl (by omega) (by omega)).mono ?_
    rintro e w5 ⟨x, -, rfl, hS, hG⟩
    replace VA := hid (var_grown hG VA.out (fun e => by have := Option.some.inj e; have := LA.out; omega))
    replace VC := hid (var_grown hG VC.out (fun e => by have := Option.some.inj e; have := LS.out; omega))
    replace BB := hid (BB.out.trans (hS.bel.mono BB.out.size))
    clear hS hG S VL BA NG
    obtain ⟨⟨d0, d1, d2, d3⟩, d4, d5, d6, d7⟩ := var4_facts VC.out
    have HC : (w5.setCell ⟨gc, 3, none⟩ (.int .i64 x)).heap[gc]? = some (.cells #[.int .i64 c.n, .int .i64 c.i, .int .i64 c.s, .int .i64 x] 45) := by simpa using heap_setCell_same w5 gc 3 _ _ (.int .i64 x) VC.out
    obtain ⟨⟨f0, f1, f2, f3⟩, -⟩ := var4_facts HC
    have HV := var_grown (set_grown w5 gc 3 (.int .i64 x)) VA.out (fun e => NA.out (Option.some.inj e))
    obtain ⟨⟨z0, z1, z2, z3⟩, z4, z5, z6, z7⟩ := var4_facts HV
    have HS := hid (var4_set (x' := .int .i64 c.n) (y' := .int .i64 c.i) (z' := .int .i64 c.s) (u' := .int .i64 x) HV)
    have BN := hid ((BB.out.setCell (p := ⟨gc, 3, none⟩) GC.out (.int .i64 x)).grown (st4_grown _ ga 0 ⟨c.n, c.i, c.s, x⟩) (by have := BB.out.size; simp; omega) (fun k e => by cases e; exact GA.out))
    unfold st4 at BN
    simp only [Nat.zero_add] at BN
    clear HC HV BB VA VC
    go_wp2
    exact bodyPost_ret (v := .agg #[.int .i64 c.n, .int .i64 c.i, .int .i64 c.s, .int .i64 x]) (results_cell_row rfl _ _ ga 45 _ _ _ rfl HS.out Try.underlying45 rfl (by kernel_rfl)) rfl ⟨⟨c.n, c.i, c.s, x⟩, rfl, BN.out⟩
  have e0 : (r == 0) = false := by simpa using r0
  have e1 : (r == 1) = false := by simpa using r1
  have e2 : (r == 2) = false := by simpa using r2
  have e3 : (r == 3) = false := by simpa using r3
  replace BB := hid (BB.out.trans (S.out.bel.mono BB.out.size))
  clear S r0 r1 r2 r3
  obtain ⟨⟨f0, f1, f2, f3⟩, -⟩ := var4_facts VC.out
  obtain ⟨⟨z0, z1, z2, z3⟩, z4, z5, z6, z7⟩ := var4_facts VA.out
  have HS := hid (var4_set (x' := .int .i64 c.n) (y' := .int .i64 c.i) (z' := .int .i64 c.s) (u' := .int .i64 c.m) VA.out)
  have BN := hid (BB.out.grown (st4_grown _ ga 0 c) BB.out.size (fun k e => by cases e; exact GA.out))
  unfold st4 at BN
  simp only [Nat.zero_add] at BN
  clear BB VA VC
  go_wp2
  exact bodyPost_ret (v := .agg #[.int .i64 c.n, .int .i64 c.i, .int .i64 c.s, .int .i64 c.m]) (results_cell_row rfl _ _ ga 45 _ _ _ rfl HS.out Try.underlying45 rfl (by kernel_rfl)) rfl ⟨c, rfl, BN.out⟩
end Go.Proofs.Ytbleikbmnkjbeac.W
