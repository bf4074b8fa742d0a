/-
  How a claim is drawn. Generated text.
-/
import Derived.Test.YtalaolfcdaaaoaaVwD
import Derived.Test.YtalaolfcdaaaoaaChn
namespace Go.Proofs.Ytalaolfcdaaaoaa.W
open Go.ChangeShapes Go.WideShapes Go.ChangeAt Go.RowKit
open Go.Proofs.Ytalaolfcdaaaoaa.M

theorem results_cc {P : Program} {fn : Func} {p q : Tmp} {ty ty' : TypeId} (h : fn.results = #[.cell p ty, .cell q ty']) (tmps : Array Value) (w : World) (g g' : Nat) (t t' : TypeId) (cs cs' : Array Value) (fr fr' : Nat × Nat) (d d' : TypeDesc)
    (hp : tmps.getD p undef = .pointer (some ⟨g, 0, none⟩)) (hq : tmps.getD q undef = .pointer (some ⟨g', 0, none⟩)) (hg : w.heap[g]? = some (.cells cs t fr)) (hg' : w.heap[g']? = some (.cells cs' t' fr'))
    (hu : P.underlying ty = some d) (hd : (match d with | .struct _ | .array _ _ => true | _ => false) = true) (hi : (P.info? ty).map (·.size) = some cs.size)
    (hu' : P.underlying ty' = some d') (hd' : (match d' with | .struct _ | .array _ _ => true | _ => false) = true) (hi' : (P.info? ty').map (·.size) = some cs'.size) :
    (results fn tmps).run P w = .ok (.tuple #[.agg cs, .agg cs']) w := by
  have hp' : tmps[p]?.getD undef = .pointer (some ⟨g, 0, none⟩) := by simpa using hp
  have hq' : tmps[q]?.getD undef = .pointer (some ⟨g', 0, none⟩) := by simpa using hq
  simp [results, h, hp', hq', asAddr, run_loadVar_row w g t ty cs fr d hg hu hd hi, run_loadVar_row w g' t' ty' cs' fr' d' hg' hu' hd' hi']
/-- A claim is drawn. -/
theorem src_set {w0 w : World} {g V i : Nat} {v : Value} {l : List Nat} {t : Nat} (h : Src w0 w g v l t) (hne : g ≠ V) (hV : w0.heap.size ≤ V) (x : Value) : Src w0 (w.setCell ⟨V, i, none⟩ x) g v l t :=
  h.grown (show w.grownBy (w.setCell ⟨V, i, none⟩ x) (some V) from ⟨by simp [World.setCell], by simp [World.setCell], by simp [World.setCell], by simp, fun k hk hn => Below.heap_setCell _ _ _ _ (fun e => hn (by rw [e]))⟩) (fun e => hne (Option.some.inj e)) (fun k e => by cases e; exact hV)
theorem grown_set {w w' : World} {g V i : Nat} (h : w.grownBy w' (some g)) (hV : w.heap.size ≤ V) (x : Value) : w.grownBy (w'.setCell ⟨V, i, none⟩ x) (some g) :=
  ⟨by simpa [World.setCell] using h.os, by simpa [World.setCell] using h.tape, by simpa [World.setCell] using h.output, by simpa using h.size, fun k hk hn => by rw [Below.heap_setCell _ _ _ _ (by show k ≠ V; omega)]; exact h.block k hk hn⟩
theorem grown_alloc {w w' : World} {g : Nat} (h : w.grownBy w' (some g)) (x : Obj) : w.grownBy (w'.alloc x) (some g) :=
  grown_trans h (grown_of_below (below_alloc1 w' x) (some g))
set_option maxHeartbeats 2000000 in
set_option maxRecDepth 100000 in
theorem l7c (w0 w : World) (g : Nat) (v : Value) (l : List Nat) (t : Nat) (h : Src w0 w g v l t) (ht : t ≤ 900000) (hl : l.length ≤ 1048576) :
    Calls Try.prog 90 #[.pointer (some ⟨g, 0, none⟩)] w fun e w' => ∃ c : Clm, e = .returned (.agg #[.int .i64 c.n, .int .i64 c.i, .int .i64 c.s, .int .i64 c.m]) ∧ Src w0 w' g v l (t + 4) ∧ w.grownBy w' (some g) := by
  have GV := hid (show g < w.heap.size from var_lt h.cells)
  have NV := hid (show w0.heap.size ≤ w.heap.size from h.bel.size)
  have S := hid (h.later (below_alloc1 w (.cells #[.int .i64 0, .int .i64 0, .int .i64 0, .int .i64 0] 38)))
  have V := hid (heap_alloc_new w (.cells #[.int .i64 0, .int .i64 0, .int .i64 0, .int .i64 0] 38))
  have G := hid (grown_of_below (below_alloc1 w (.cells #[.int .i64 0, .int .i64 0, .int .i64 0, .int .i64 0] 38)) (some g))
  clear h
  go_enter Try.func90, Try.ntmps90
  go_wp2_with fail
  generalize w.alloc (.cells #[.int .i64 0, .int .i64 0, .int .i64 0, .int .i64 0] 38) = x0 at *
  obtain ⟨gv, hgv⟩ : ∃ q, q = w.heap.size := ⟨_, rfl⟩
  rw [← hgv] at V GV NV ⊢
  have GW := hid (show w.heap.size ≤ gv by omega)
  clear hgv
  refine (next w0 x0 g v l t 4 S.out (by omega) (by omega) hl).mono ?_
  rintro e x1 ⟨r0, rfl, -, hS, hG⟩
  replace S := hid hS
  replace V := hid (var_grown hG V.out (fun e => by have := Option.some.inj e; have := GV.out; omega))
  replace G := hid (grown_trans G.out hG)
  clear hS hG
  have VL := hid (show Lst (x1.alloc (.cells #[.int .i64 0, .int .i64 1, .int .i64 2, .int .i64 3, .int .i64 1000000] 2)) x1.heap.size [0, 1, 2, 3, 1000000] from heap_alloc_new x1 (.cells #[.int .i64 0, .int .i64 1, .int .i64 2, .int .i64 3, .int .i64 1000000] 2))
  have BA := hid (below_alloc1 x1 (.cells #[.int .i64 0, .int .i64 1, .int .i64 2, .int .i64 3, .int .i64 1000000] 2))
  have NG := hid (show x1.heap.size ≠ g by have := G.out.size; have := var_lt S.out.cells; omega)
  replace S := hid (S.out.later BA.out)
  replace V := hid (var_below BA.out V.out)
  replace G := hid (grown_alloc G.out (.cells #[.int .i64 0, .int .i64 1, .int .i64 2, .int .i64 3, .int .i64 1000000] 2))
  go_wp2_with fail
  refine (pick' w0 _ g x1.heap.size 5 v l _ [0, 1, 2, 3, 1000000] S.out (by omega) hl VL.out NG.out rfl (by omega) (by omega)).mono ?_
  rintro e x2 ⟨r1, -, rfl, hS, hG⟩
  clear VL BA NG
  replace S := hid hS
  replace V := hid (var_grown hG V.out (fun e => by have := Option.some.inj e; have := GV.out; omega))
  replace G := hid (grown_trans G.out hG)
  clear hS hG
  go_wp2_with fail
  refine (next w0 _ g v l _ 3 S.out (by omega) (by omega) hl).mono ?_
  rintro e x3 ⟨r2, rfl, -, hS, hG⟩
  replace S := hid hS
  replace V := hid (var_grown hG V.out (fun e => by have := Option.some.inj e; have := GV.out; omega))
  replace G := hid (grown_trans G.out hG)
  clear hS hG
  have VL := hid (show Lst (x3.alloc (.cells #[.int .i64 0, .int .i64 80, .int .i64 65616, .int .i64 9999999] 2)) x3.heap.size [0, 80, 65616, 9999999] from heap_alloc_new x3 (.cells #[.int .i64 0, .int .i64 80, .int .i64 65616, .int .i64 9999999] 2))
  have BA := hid (below_alloc1 x3 (.cells #[.int .i64 0, .int .i64 80, .int .i64 65616, .int .i64 9999999] 2))
  have NG := hid (show x3.heap.size ≠ g by have := G.out.size; have := var_lt S.out.cells; omega)
  replace S := hid (S.out.later BA.out)
  replace V := hid (var_below BA.out V.out)
  replace G := hid (grown_alloc G.out (.cells #[.int .i64 0, .int .i64 80, .int .i64 65616, .int .i64 9999999] 2))
  go_wp2_with fail
  refine (pick' w0 _ g x3.heap.size 4 v l _ [0, 80, 65616, 9999999] S.out (by omega) hl VL.out NG.out rfl (by omega) (by omega)).mono ?_
  rintro e x4 ⟨r3, -, rfl, hS, hG⟩
  clear VL BA NG
  replace S := hid hS
  replace V := hid (var_grown hG V.out (fun e => by have := Option.some.inj e; have := GV.out; omega))
  replace G := hid (grown_trans G.out hG)
  clear hS hG
  obtain ⟨⟨z0, z1, z2, z3⟩, z4, z5, z6, z7⟩ := var4_facts V.out
  have GN := GV.out
  have HS := hid (var4_set (x' := .int .i64 r0) (y' := .int .i64 r1) (z' := .int .i64 r2) (u' := .int .i64 r3) V.out)
  have SS := hid (src_set (i := 3) (src_set (i := 2) (src_set (i := 1) (src_set (i := 0) S.out (by omega) NV.out (.int .i64 r0)) (by omega) NV.out (.int .i64 r1)) (by omega) NV.out (.int .i64 r2)) (by omega) NV.out (.int .i64 r3))
  have GG := hid (grown_set (i := 3) (grown_set (i := 2) (grown_set (i := 1) (grown_set (i := 0) G.out GW.out (.int .i64 r0)) GW.out (.int .i64 r1)) GW.out (.int .i64 r2)) GW.out (.int .i64 r3))
  clear S G GN
  go_wp2
  exact bodyPost_ret (v := .agg #[.int .i64 r0, .int .i64 r1, .int .i64 r2, .int .i64 r3]) (results_cell_row rfl _ _ gv 38 _ _ _ rfl HS.out Try.underlying38 rfl (by kernel_rfl)) rfl ⟨⟨r0, r1, r2, r3⟩, rfl, SS.out, GG.out⟩
end Go.Proofs.Ytalaolfcdaaaoaa.W
