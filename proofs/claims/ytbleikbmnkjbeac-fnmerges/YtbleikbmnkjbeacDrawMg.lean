/-
  The draws of the law of merges. Generated text.
-/
import Derived.Test.YtbleikbmnkjbeacDrawVw
import Derived.Test.YtbleikbmnkjbeacVwMv
import Derived.Test.YtbleikbmnkjbeacVwS
namespace Go.Proofs.Ytbleikbmnkjbeac.W
open Go.ChangeShapes Go.WideShapes Go.ChangeAt Go.RowKit
open Go.Proofs.Ytbleikbmnkjbeac.M

theorem results_tc {P : Program} {fn : Func} {p q : Tmp} {ty' : TypeId} (h : fn.results = #[.tmp p, .cell q ty']) (tmps : Array Value) (w : World) (x : Value) (g' : Nat) (t' : TypeId) (cs' : Array Value) (fr' : Nat × Nat) (d' : TypeDesc)
    (hp : tmps.getD p undef = x) (hq : tmps.getD q undef = .pointer (some ⟨g', 0, none⟩)) (hg' : w.heap[g']? = some (.cells cs' t' fr'))
    (hu' : P.underlying ty' = some d') (hd' : (match d' with | .struct _ | .array _ _ => true | _ => false) = true) (hi' : (P.info? ty').map (·.size) = some cs'.size) :
    (results fn tmps).run P w = .ok (.tuple #[x, .agg cs']) w := by
  have hp' : tmps[p]?.getD undef = x := by simpa using hp
  have hq' : tmps[q]?.getD undef = .pointer (some ⟨g', 0, none⟩) := by simpa using hq
  simp [results, h, hp', hq', asAddr, run_loadVar_row w g' t' ty' cs' fr' d' hg' hu' hd' hi']
theorem fldV1 (c : Int) (a : Option Addr) (n k : Nat) (b : Bool) (w : World) : (Instr.field 75 (.agg #[.int .i64 c, .slice a n k, .bool b]) 1).run Try.prog w = .ok (.slice a n k) w := by kernel_rfl
set_option maxHeartbeats 2000000 in
set_option maxRecDepth 100000 in
theorem drMv (v : Value) (l : List Nat) (w : World) (h : Rd w v l) (y : Byt l) (hl : l.length ≤ 1048576) :
    Calls Try.prog 49 #[v] w fun e w' => ∃ (u u' : Value) (cs ds : List Clm), e = .returned (.tuple #[u, u']) ∧ RdC w' u cs ∧ RdC w' u' ds ∧ cs.length ≤ 8 ∧ ds.length ≤ 8 ∧ Below w.heap.size w w' := by
  have RC := hid h
  obtain ⟨q, cap, rfl, -, -, -⟩ := h.parts
  clear h
  go_enter Try.func49, Try.ntmps49
  go_wp2_with fail
  refine (source _ l w RC.out y).mono ?_
  rintro e w1 ⟨rfl, hS⟩
  have S := hid hS
  clear hS
  obtain ⟨gs, hgs⟩ : ∃ q, q = w.heap.size := ⟨_, rfl⟩
  rw [← hgs] at S ⊢
  clear hgs
  go_wp2_with fail
  refine (l8b w w1 gs _ l 0 S.out (by omega) hl).mono ?_
  rintro e w2 ⟨u, cs, t', rfl, hO, hc, htt, hS, hG⟩
  obtain ⟨pu, cu, rfl, -, -, -⟩ := hO.rd.parts
  have GS := hid (show gs < w1.heap.size from var_lt S.out.cells)
  have OL := hid hO
  replace S := hid hS
  clear hO hS
  have GT := hid (show gs < w2.heap.size from var_lt S.out.cells)
  clear hG
  go_wp2_with fail
  refine (l8b w w2 gs _ l t' S.out (by omega) hl).mono ?_
  rintro e w3 ⟨u, ds, t2, rfl, hO, hd, ht2, hS, hG⟩
  obtain ⟨pv, cv, rfl, -, -, -⟩ := hO.rd.parts
  replace OL := hid (OL.out.keepG hG GS.out)
  have OM := hid hO
  replace S := hid hS
  clear hO hS hG
  go_wp2
  go_ret2
  exact ⟨.slice pu cs.length cu, .slice pv ds.length cv, cs, ds, rfl, OL.out.rd, OM.out.rd, hc, hd, S.out.bel⟩
set_option maxHeartbeats 2000000 in
set_option maxRecDepth 100000 in
theorem drMc (v : Value) (l : List Nat) (w : World) (h : Rd w v l) (y : Byt l) (hl : l.length ≤ 1048576) :
    Calls Try.prog 47 #[v] w fun e w' => ∃ (u : Value) (cs : List Clm) (c : Clm), e = .returned (.tuple #[u, .agg #[.int .i64 c.n, .int .i64 c.i, .int .i64 c.s, .int .i64 c.m]]) ∧ RdC w' u cs ∧ cs.length ≤ 8 ∧ Below w.heap.size w w' := by
  have RC := hid h
  obtain ⟨q, cap, rfl, -, -, -⟩ := h.parts
  clear h
  go_enter Try.func47, Try.ntmps47
  have VA := hid (heap_alloc_new w (.cells #[.int .i64 0, .int .i64 0, .int .i64 0, .int .i64 0] 45))
  have BB := hid (below_alloc1 w (.cells #[.int .i64 0, .int .i64 0, .int .i64 0, .int .i64 0] 45))
  go_wp2_with fail
  generalize w.alloc (.cells #[.int .i64 0, .int .i64 0, .int .i64 0, .int .i64 0] 45) = w0 at *
  obtain ⟨ga, hga⟩ : ∃ g, g = w.heap.size := ⟨_, rfl⟩
  rw [← hga] at VA ⊢
  have GA := hid (show w.heap.size ≤ ga by omega)
  have LA := hid (show ga < w0.heap.size from var_lt VA.out)
  clear hga
  refine (source _ l w0 (RC.out.below BB.out) y).mono ?_
  rintro e w1 ⟨rfl, hS⟩
  have S := hid hS
  replace VA := hid (var_below hS.bel VA.out)
  replace RC := hid ((RC.out.below BB.out).below hS.bel)
  clear hS
  obtain ⟨gs, hgs⟩ : ∃ g, g = w0.heap.size := ⟨_, rfl⟩
  rw [← hgs] at S LA ⊢
  have GS := hid (show w0.heap.size ≤ gs by omega)
  clear hgs
  have NE := hid (show some ga ≠ some gs from fun e => by have := Option.some.inj e; have := LA.out; omega)
  have LS := hid (show gs < w1.heap.size from var_lt S.out.cells)
  have LB := hid (show ga < w1.heap.size from Nat.lt_trans LA.out LS.out)
  go_wp2_with fail
  refine (l8b w0 w1 gs _ l 0 S.out (by omega) hl).mono ?_
  rintro e w2 ⟨u, cs, t', rfl, hO, hc, htt, hS, hG⟩
  obtain ⟨pu, cu, rfl, -, -, -⟩ := hO.rd.parts
  have OL := hid hO
  replace S := hid hS
  replace VA := hid (var_grown hG VA.out NE.out)
  clear hO hS hG
  go_wp2_with fail
  refine (chance w0 w2 gs _ l t' 7 S.out (by omega) (by omega) hl).mono ?_
  rintro e w3 ⟨r, rfl, hS, hG⟩
  replace OL := hid (OL.out.keepG hG LS.out)
  replace S := hid hS
  replace VA := hid (var_grown hG VA.out NE.out)
  clear hS hG
  cases r
  · go_wp2_with fail
    refine (l7c w0 w3 gs _ l _ S.out (by omega) hl).mono ?_
    rintro e w4 ⟨c, rfl, hS, hG⟩
    replace OL := hid (OL.out.keepG hG LS.out)
    replace S := hid hS
    replace VA := hid (var_grown hG VA.out NE.out)
    replace BB := hid (BB.out.trans (S.out.bel.mono BB.out.size))
    clear hS hG S
    obtain ⟨⟨z0, z1, z2, z3⟩, z4, z5, z6, z7⟩ := var4_facts VA.out
    have HS := hid (var4_set (x' := .int .i64 c.n) (y' := .int .i64 c.i) (z' := .int .i64 c.s) (u' := .int .i64 c.m) VA.out)
    have HL := hid ((OL.out.keepG (st4_grown _ ga 0 c) LB.out).rd)
    have BN := hid (BB.out.grown (st4_grown _ ga 0 c) BB.out.size (fun k e => by cases e; exact GA.out))
    unfold st4 at BN HL
    simp only [Nat.zero_add] at BN HL
    clear BB VA OL
    go_wp2
    exact bodyPost_ret (v := .tuple #[.slice pu cs.length cu, .agg #[.int .i64 c.n, .int .i64 c.i, .int .i64 c.s, .int .i64 c.m]]) (results_tc rfl _ _ (.slice pu cs.length cu) ga 45 _ _ _ rfl rfl HS.out Try.underlying45 rfl (by kernel_rfl)) rfl ⟨.slice pu cs.length cu, cs, c, rfl, HL.out, hc, BN.out⟩
  · have SB := hid S.out.bel
    have RD := hid (S.out.rd.below SB.out)
    go_wp2_with fail
    refine (drCf _ l w3 RD.out y hl).mono ?_
    rintro e w4 ⟨c, rfl, hB⟩
    replace OL := hid (OL.out.below hB)
    replace VA := hid (var_below hB VA.out)
    replace BB := hid (BB.out.trans ((SB.out.trans (hB.mono SB.out.size)).mono BB.out.size))
    clear hB S SB RD
    obtain ⟨⟨z0, z1, z2, z3⟩, z4, z5, z6, z7⟩ := var4_facts VA.out
    have HS := hid (var4_set (x' := .int .i64 c.n) (y' := .int .i64 c.i) (z' := .int .i64 c.s) (u' := .int .i64 c.m) VA.out)
    have HL := hid ((OL.out.keepG (st4_grown _ ga 0 c) LB.out).rd)
    have BN := hid (BB.out.grown (st4_grown _ ga 0 c) BB.out.size (fun k e => by cases e; exact GA.out))
    unfold st4 at BN HL
    simp only [Nat.zero_add] at BN HL
    clear BB VA OL
    go_wp2
    exact bodyPost_ret (v := .tuple #[.slice pu cs.length cu, .agg #[.int .i64 c.n, .int .i64 c.i, .int .i64 c.s, .int .i64 c.m]]) (results_tc rfl _ _ (.slice pu cs.length cu) ga 45 _ _ _ rfl rfl HS.out Try.underlying45 rfl (by kernel_rfl)) rfl ⟨.slice pu cs.length cu, cs, c, rfl, HL.out, hc, BN.out⟩
set_option maxHeartbeats 2000000 in
set_option maxRecDepth 100000 in
theorem drIa (v : Value) (l : List Nat) (w : World) (h : Rd w v l) (y : Byt l) (hl : l.length ≤ 1048576) :
    Calls Try.prog 51 #[v] w fun e w' => ∃ (u u' : Value) (cs ds : List Clm), e = .returned (.tuple #[u, u']) ∧ RdC w' u cs ∧ RdC w' u' ds ∧ Below w.heap.size w w' := by
  have RC := hid h
  obtain ⟨q, cap, rfl, -, -, -⟩ := h.parts
  clear h
  go_enter Try.func51, Try.ntmps51
  go_wp2_with fail
  refine (source _ l w RC.out y).mono ?_
  rintro e w1 ⟨rfl, hS⟩
  have S := hid hS
  clear hS
  obtain ⟨gs, hgs⟩ : ∃ q, q = w.heap.size := ⟨_, rfl⟩
  rw [← hgs] at S ⊢
  clear hgs
  go_wp2_with fail
  refine (l8b w w1 gs _ l 0 S.out (by omega) hl).mono ?_
  rintro e w2 ⟨u, cs, t', rfl, hO, hc, htt, hS, hG⟩
  obtain ⟨pu, cu, rfl, -, -, -⟩ := hO.rd.parts
  have GS := hid (show gs < w1.heap.size from var_lt S.out.cells)
  have OL := hid hO
  replace S := hid hS
  clear hO hS
  have GT := hid (show gs < w2.heap.size from var_lt S.out.cells)
  clear hG
  go_wp2_with fail
  refine (l8b w w2 gs _ l t' S.out (by omega) hl).mono ?_
  rintro e w3 ⟨u, ds, t2, rfl, hO, hd, ht2, hS, hG⟩
  obtain ⟨pv, cv, rfl, -, -, -⟩ := hO.rd.parts
  replace OL := hid (OL.out.keepG hG GS.out)
  have OM := hid hO
  replace S := hid hS
  clear hO hS hG
  go_wp2_with fail
  refine (chance w w3 gs _ l t2 2 S.out (by omega) (by omega) hl).mono ?_
  rintro e w4 ⟨r, rfl, hS, hG⟩
  replace OL := hid (OL.out.keepG hG GS.out)
  replace OM := hid (OM.out.keepG hG GT.out)
  replace S := hid hS
  clear hS hG
  have BB := hid S.out.bel
  have HA := hid OL.out.rd
  have HB := hid OM.out.rd
  clear S OL OM
  cases r
  · go_wp2
    go_ret2
    exact ⟨.slice pu cs.length cu, .slice pv ds.length cv, cs, ds, rfl, HA.out, HB.out, BB.out⟩
  · go_wp2_with fail
    refine (svf _ cs _ HA.out).mono ?_
    rintro e w5 ⟨rfl, hB⟩
    replace HA := hid (HA.out.below hB)
    replace HB := hid (HB.out.below hB)
    replace BB := hid (BB.out.trans (hB.mono BB.out.size))
    clear hB
    by_cases k0 : vF cs = 0
    · rw [k0]
      go_wp2_with fail
      refine (svf _ ds _ HB.out).mono ?_
      rintro e w6 ⟨rfl, hB⟩
      replace HA := hid (HA.out.below hB)
      replace HB := hid (HB.out.below hB)
      replace BB := hid (BB.out.trans (hB.mono BB.out.size))
      clear hB
      by_cases k1 : vF ds = 0
      · rw [k1]
        go_wp2_with fail
        refine (smv _ _ cs ds _ HA.out HB.out).mono ?_
        rintro e w7 ⟨u, rfl, hR, hB⟩
        obtain ⟨pm, cm, rfl, -, -, -⟩ := hR.parts
        have hf := fldV1 (mvC cs ds) pm (mvL cs ds).length cm (mvT cs ds)
        have HM := hid hR
        replace HB := hid (HB.out.below hB)
        replace BB := hid (BB.out.trans (hB.mono BB.out.size))
        clear hB hR
        go_wp2
        go_ret2
        exact ⟨.slice pm (mvL cs ds).length cm, .slice pv ds.length cv, mvL cs ds, ds, rfl, HM.out, HB.out, BB.out⟩
      · have ne : (vF ds == 0) = false := by simpa using k1
        go_wp2
        go_ret2
        exact ⟨.slice pu cs.length cu, .slice pv ds.length cv, cs, ds, rfl, HA.out, HB.out, BB.out⟩
    · have ne : (vF cs == 0) = false := by simpa using k0
      go_wp2
      go_ret2
      exact ⟨.slice pu cs.length cu, .slice pv ds.length cv, cs, ds, rfl, HA.out, HB.out, BB.out⟩
end Go.Proofs.Ytbleikbmnkjbeac.W
