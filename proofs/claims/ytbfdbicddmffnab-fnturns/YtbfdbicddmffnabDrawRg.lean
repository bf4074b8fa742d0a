/-
  How rings are drawn. Generated text.
-/
import Derived.Deep.Cut
import Derived.Test.YtbfdbicddmffnabDrawRy
import Derived.Test.YtbfdbicddmffnabSrcSet
namespace Go.Proofs.Ytbfdbicddmffnab.M
open Go.ChangeShapes Go.WideShapes Go.ChangeAt Go.RowKit
open Go.Proofs.Ytbfdbicddmffnab.W

/-- The keys that are drawn: their numbers and bytes. -/
def KOk (ks : List (Int × List Nat)) : Prop := ∀ k ∈ ks, (1 ≤ k.1 ∧ k.1 ≤ 20) ∧ k.2.length = 16 ∧ Byt k.2
theorem kok_snoc {ks : List (Int × List Nat)} {i : Int} {r : List Nat} {m : Nat} (h : KOk ks) (hi : 1 ≤ i ∧ i + 2 * (m : Int) ≤ 11) (hr : r.length = 16 ∧ Byt r) : KOk (ks ++ [(i, r)]) := fun k hk => by
  rcases List.mem_append.1 hk with q | q
  · exact h k q
  · obtain rfl := List.mem_singleton.1 q
    exact ⟨⟨hi.1, by omega⟩, hr⟩
theorem nle2 {a b c n : Nat} (h : b = a + 1) (h2 : n = a + 2) (h3 : b < c) : n ≤ c := by omega
theorem grownNk {a b c : World} {g : Nat} {row : Option Nat} (h : a.grownBy b (some g)) (k : b.grownBy c row) (hr : ∀ x, row = some x → a.heap.size ≤ x) : a.grownBy c (some g) :=
  ⟨k.os.trans h.os, k.tape.trans h.tape, k.output.trans h.output, Nat.le_trans h.size k.size, fun i hi hne => (k.block i (Nat.lt_of_lt_of_le hi h.size) (fun e => by have := hr i e.symm; omega)).trans (h.block i hi hne)⟩
theorem set1_otherk {w : World} {g k i : Nat} {x : Value} {o : Obj} (hne : g ≠ k) (h : w.heap[g]? = some o) : (w.setCell ⟨k, i, none⟩ x).heap[g]? = some o := by
  rw [Below.heap_setCell _ _ _ _ hne]; exact h
theorem OKs.keepGk {w w' : World} {lo hi g : Nat} {v : Value} {ks : List (Int × List Nat)} (h : OKs w lo hi v ks) (hG : w.grownBy w' (some g)) (hg : g < lo) (hs : hi ≤ w.heap.size) : OKs w' lo hi v ks :=
  h.agr fun k h1 h2 => hG.block k (by omega) (fun e => by have := Option.some.inj e; omega)
end Go.Proofs.Ytbfdbicddmffnab.M
namespace Go.Proofs.Ytbfdbicddmffnab.W
open Go.ChangeShapes Go.WideShapes Go.ChangeAt Go.RowKit
open Go.Proofs.Ytbfdbicddmffnab.M

theorem idx_kd (b o n c j : Nat) (hj : j < n) (w : World) : (Instr.indexAt 36 (.slice (some ⟨b, o, none⟩) n c) (.int .i64 (j : Int))).run Try.prog w = .ok (.pointer (some ⟨b, o + j * 2, none⟩)) w := by
  have hs : ∀ w : World, (sizeOf (Try.prog.elem 36)).run Try.prog w = .ok 2 w := fun _ => by kernel_rfl
  rw [run_indexAt_slice (P := Try.prog) w 36 _ n c .i64 (j : Int) (by kernel_rfl)]
  simp [hs, hj, Result.andThen, Addr.add_lit]
set_option maxHeartbeats 8000000 in
set_option maxRecDepth 100000 in
theorem l4d (w0 w : World) (g : Nat) (v : Value) (l : List Nat) (t : Nat) (h : Src w0 w g v l t) (ht : t ≤ 700000) (hl : l.length ≤ 1048576) :
    Calls Try.prog 100 #[.pointer (some ⟨g, 0, none⟩)] w fun e w' => ∃ (pr : Int) (u : Value) (ks : List (Int × List Nat)) (t' : Nat), e = .returned (.agg #[.int .i64 pr, u]) ∧ OKs w' (w.heap.size + 2) w'.heap.size u ks ∧ (1 ≤ ks.length ∧ ks.length ≤ 3) ∧ KOk ks ∧ (1 ≤ pr ∧ pr ≤ 20) ∧ t' ≤ t + 20 ∧ Src w0 w' g v l t' ∧ w.grownBy w' (some g) := by
  have GV0 := hid (show g < w.heap.size from var_lt h.cells)
  have NV := hid (show w0.heap.size ≤ w.heap.size from h.bel.size)
  have VR := hid (heap_alloc2_old w (.cells #[.int .i64 0, .slice none 0 0] 38) (.cells #[.int .i64 0, .slice none 0 0] 38))
  have VW := hid (heap_alloc2_new w (.cells #[.int .i64 0, .slice none 0 0] 38) (.cells #[.int .i64 0, .slice none 0 0] 38))
  have B2 := below_alloc2 w (.cells #[.int .i64 0, .slice none 0 0] 38) (.cells #[.int .i64 0, .slice none 0 0] 38)
  have S := hid (h.later B2)
  have G := hid (grown_of_below B2 (some g))
  have SZ := hid (show ((w.alloc (.cells #[.int .i64 0, .slice none 0 0] 38)).alloc (.cells #[.int .i64 0, .slice none 0 0] 38)).heap.size = w.heap.size + 2 by simp)
  clear h B2
  go_enter Try.func100, Try.ntmps100
  go_upto_region 2 with fail
  generalize (w.alloc (.cells #[.int .i64 0, .slice none 0 0] 38)).alloc (.cells #[.int .i64 0, .slice none 0 0] 38) = x0 at *
  obtain ⟨gw, hgw⟩ : ∃ q, q = w.heap.size + 1 := ⟨_, rfl⟩
  rw [← hgw] at VW ⊢
  obtain ⟨gr, hgr⟩ : ∃ q, q = w.heap.size := ⟨_, rfl⟩
  rw [← hgr] at VR ⊢
  obtain ⟨N, hN⟩ : ∃ q, q = w.heap.size + 2 := ⟨_, rfl⟩
  rw [← hN] at SZ
  have LQ := hid (show gr = w.heap.size ∧ gw = w.heap.size + 1 ∧ N = w.heap.size + 2 from ⟨hgr, hgw, hN⟩)
  have GV := hid (show g < N by have := GV0.out; omega)
  have NVR := hid (show gr ≠ g by have := GV0.out; omega)
  have NVW := hid (show gw ≠ g by have := GV0.out; omega)
  have NRW := hid (show gr ≠ gw by omega)
  clear hgw hgr hN
  have VL := hid (show Lst (x0.alloc (.cells #[.int .i64 1, .int .i64 2, .int .i64 5] 2)) x0.heap.size [1, 2, 5] from heap_alloc_new x0 (.cells #[.int .i64 1, .int .i64 2, .int .i64 5] 2))
  have hA := below_alloc1 x0 (.cells #[.int .i64 1, .int .i64 2, .int .i64 5] 2)
  have NG := hid (show x0.heap.size ≠ g by have := var_lt S.out.cells; omega)
  replace S := hid (S.out.later hA)
  replace VR := hid (var_below hA VR.out)
  replace VW := hid (var_below hA VW.out)
  replace G := hid (grown_trans G.out (grown_of_below hA (some g)))
  clear hA
  go_wp2_with fail
  refine (pick' w0 _ g x0.heap.size 3 v l _ [1, 2, 5] S.out (by omega) hl VL.out NG.out rfl (by omega) (by omega)).mono ?_
  rintro e x1 ⟨id0, hid0, rfl, hS, hG⟩
  replace S := hid hS
  replace VR := hid (var_grown hG VR.out (fun e => by have := Option.some.inj e; have := NVR.out; omega))
  replace VW := hid (var_grown hG VW.out (fun e => by have := Option.some.inj e; have := NVW.out; omega))
  replace G := hid (grown_trans G.out hG)
  clear hS hG
  clear VL NG
  have hid0 : 1 ≤ id0 ∧ id0 ≤ 5 := by simp at hid0; omega
  skip
  have VL := hid (show Lst (x1.alloc (.cells #[.int .i64 1, .int .i64 2, .int .i64 2, .int .i64 3] 2)) x1.heap.size [1, 2, 2, 3] from heap_alloc_new x1 (.cells #[.int .i64 1, .int .i64 2, .int .i64 2, .int .i64 3] 2))
  have hA := below_alloc1 x1 (.cells #[.int .i64 1, .int .i64 2, .int .i64 2, .int .i64 3] 2)
  have NG := hid (show x1.heap.size ≠ g by have := var_lt S.out.cells; omega)
  replace S := hid (S.out.later hA)
  replace VR := hid (var_below hA VR.out)
  replace VW := hid (var_below hA VW.out)
  replace G := hid (grown_trans G.out (grown_of_below hA (some g)))
  clear hA
  go_wp2_with fail
  refine (pick' w0 _ g x1.heap.size 4 v l _ [1, 2, 2, 3] S.out (by omega) hl VL.out NG.out rfl (by omega) (by omega)).mono ?_
  rintro e x2 ⟨n, hn, rfl, hS, hG⟩
  replace S := hid hS
  replace VR := hid (var_grown hG VR.out (fun e => by have := Option.some.inj e; have := NVR.out; omega))
  replace VW := hid (var_grown hG VW.out (fun e => by have := Option.some.inj e; have := NVW.out; omega))
  replace G := hid (grown_trans G.out hG)
  clear hS hG
  clear VL NG
  obtain ⟨m0, rfl, hm⟩ : ∃ m : Nat, n = (m : Int) ∧ 1 ≤ m ∧ m ≤ 3 := ⟨n.toNat, by simp at hn; omega, by simp at hn; omega⟩
  clear hn
  have ZN := hid (show N ≤ x2.heap.size from nle2 LQ.out.2.1 LQ.out.2.2 (var_lt VW.out))
  go_wp2_with fail
  go_loopw [4, 5] (fun s4 n wr => ∃ m : Nat, ∃ id' : Int, ∃ u : Value, ∃ ks : List (Int × List Nat), ∃ t' : Nat, n = .int .i64 m ∧ s4 = .int .i64 id' ∧ ks.length + m = m0 ∧ (1 ≤ id' ∧ id' + 2 * m ≤ 11) ∧ t' + m ≤ t + 8 ∧ Hid (KOk ks) ∧ Hid (wr.heap[gw]? = some (.cells #[.int .i64 0, u] 38)) ∧ Hid (wr.heap[gr]? = some (.cells #[.int .i64 0, .slice none 0 0] 38)) ∧ Hid (OKs wr N wr.heap.size u ks) ∧ Hid (N ≤ wr.heap.size) ∧ Hid (Src w0 wr g v l t') ∧ Hid (w.grownBy wr (some g))) (fun _ n _ => (intOf n).toNat)
  case atStart => exact ⟨m0, id0, _, [], _, rfl, rfl, by simp, by omega, by omega, hid (fun k hk => by simp at hk), VW, VR, hid (OKs.nil _ _ _), ZN, S, G⟩
  case round =>
    clear VW VR S G ZN hid0
    obtain ⟨m, id', u, ks, t', rfl, rfl, hk, hi, htt, KO, VW, VR, OK, ZN, S, G⟩ := hrel
    obtain ⟨pu, cu, rfl, -, -, -⟩ := OK.out.rd.parts
    by_cases hlt : 0 < m
    · have hli : (0 : Int) < (m : Int) := by omega
      go_wp2
      obtain ⟨y0, y1, -, -⟩ := var2_facts VW.out
      refine wp_region_held_drew (S := fun _ => True) (by kernel_rfl) trivial (fun hH => ?_)
      clear y0 y1
      have VWd := hid (show wr.drew.heap[gw]? = some (.cells #[.int .i64 0, .slice pu ks.length cu] 38) from VW.out)
      have VRd := hid (show wr.drew.heap[gr]? = some (.cells #[.int .i64 0, .slice none 0 0] 38) from VR.out)
      have OKd := hid (show OKs wr.drew N wr.drew.heap.size _ ks from OK.out.agr (fun _ _ _ => rfl))
      have Sd := hid (S.out.drewN 1)
      have Gd := hid (grown_drewN G.out 1)
      have ZNd := hid (show N ≤ wr.drew.heap.size from ZN.out)
      change Hid (Src w0 wr.drew g v l _) at Sd
      change Hid (w.grownBy wr.drew (some g)) at Gd
      generalize wr.drew = x at *
      have VW := VWd
      have VR := VRd
      have OK := OKd
      have S := Sd
      have G := Gd
      have ZN := ZNd
      obtain ⟨M, hM⟩ : ∃ q, q = x.heap.size := ⟨_, rfl⟩
      rw [← hM] at OK ZN
      have HM := hid (Nat.le_of_eq hM)
      have HE := hid hM
      clear hM
      refine wpAnyH_take (i := 0) (v := .pointer (some ⟨gw, 1, none⟩)) (by simp only [List.getElem?_toArray, List.getElem?_cons_zero]; rfl) (by kernel_rfl) (by kernel_rfl) (by kernel_rfl) (by intro _ _ _ h; exact h) (Or.inl ⟨by rfl, fun w hS => by go_simp⟩) hH ?_
      simp only [Act.put, List.setIfInBounds_toArray, List.set_cons_zero, List.set_cons_succ]
      refine wpAnyH_take (i := 2) (v := .int .i64 id') (by simp only [List.getElem?_toArray, List.getElem?_cons_succ, List.getElem?_cons_zero]; rfl) (by kernel_rfl) (by kernel_rfl) (by kernel_rfl) (by intro _ _ _ h; exact h) (Or.inl ⟨by rfl, fun w hS => by go_simp⟩) hH ?_
      simp only [Act.put, List.setIfInBounds_toArray, List.set_cons_zero, List.set_cons_succ]
      refine wpAnyH_take (i := 3) (v := .int .i64 id') (by simp only [List.getElem?_toArray, List.getElem?_cons_succ, List.getElem?_cons_zero]; rfl) (by kernel_rfl) (by kernel_rfl) (by kernel_rfl) (by intro _ _ _ h; exact h) (Or.inl ⟨by rfl, fun w hS => by go_simp⟩) hH ?_
      simp only [Act.put, List.setIfInBounds_toArray, List.set_cons_zero, List.set_cons_succ]
      refine wpAnyH_ready (rs := [1, 4]) (by kernel_rfl) (by simp) ?_
      refine AllReadyH.cons (by simp only [List.getElem?_toArray, List.getElem?_cons_succ, List.getElem?_cons_zero]; rfl) (fun K hK => ?_) ?_
      · obtain ⟨q0, q1, -, -⟩ := var2_facts VW.out
        go_simp
        refine hK.out _ _ trivial (fun hH => ?_)
        clear hK K q0 q1
        refine wpAnyH_ready (rs := [4]) (by kernel_rfl) (by simp) ?_
        refine AllReadyH.cons (by simp only [List.getElem?_toArray, List.getElem?_cons_succ, List.getElem?_cons_zero]; rfl) (fun K hK => ?_) AllReadyH.nil
        go_simp
        refine (l4y id' _).mono ?_
        rintro e xa ⟨ub, r, rfl, hO, hr, hy, hM⟩
        obtain ⟨pb, cb, rfl, -, -, -⟩ := hO.rd.parts
        have OBy := hid ((OB.of hO.x).mono (show M ≤ x.heap.size from HM.out) (Nat.le_refl _))
        have KN := hid (show r.length = 16 ∧ Byt r from ⟨hr, hy⟩)
        replace S := hid (S.out.later hM)
        replace OK := hid (OK.out.below hM)
        replace VR := hid (var_below hM VR.out)
        replace VW := hid (var_below hM VW.out)
        replace HM := hid (Nat.le_trans HM.out hM.size)
        replace G := hid (grown_trans G.out (grown_of_below hM (some g)))
        clear hM
        refine hK.out _ _ trivial (fun hH => ?_)
        clear hK K hO hr hy
        refine wpAnyH_take (i := 5) (v := .agg #[.int .i64 id', .slice pb r.length cb]) (by simp only [List.getElem?_toArray, List.getElem?_cons_succ, List.getElem?_cons_zero]; rfl) (by kernel_rfl) (by kernel_rfl) (by kernel_rfl) (by intro _ _ _ h; exact h) (Or.inl ⟨by rfl, fun w hS => by go_simp⟩) hH ?_
        simp only [Act.put, List.setIfInBounds_toArray, List.set_cons_zero, List.set_cons_succ]
        refine wpAnyH_ready (rs := [6]) (by kernel_rfl) (by simp) ?_
        refine AllReadyH.cons (by simp only [List.getElem?_toArray, List.getElem?_cons_succ, List.getElem?_cons_zero]; rfl) (fun K hK => ?_) AllReadyH.nil
        go_simp
        have VK := hid (heap_alloc_new xa (.cells #[.int .i64 id', .slice pb r.length cb] 40))
        have hA := below_alloc1 xa (.cells #[.int .i64 id', .slice pb r.length cb] 40)
        replace S := hid (S.out.later hA)
        replace OK := hid (OK.out.below hA)
        replace VR := hid (var_below hA VR.out)
        replace VW := hid (var_below hA VW.out)
        replace OBy := hid (OBy.out.below hA)
        replace HM := hid (Nat.le_trans HM.out hA.size)
        replace G := hid (grown_trans G.out (grown_of_below hA (some g)))
        clear hA
        refine hK.out _ _ trivial (fun hH => ?_)
        clear hK K
        have SA := hid (show xa.heap.size < (xa.alloc (.cells #[.int .i64 id', .slice pb r.length cb] 40)).heap.size by simp)
        generalize xa.alloc (.cells #[.int .i64 id', .slice pb r.length cb] 40) = xb at *
        obtain ⟨gk, hgk⟩ : ∃ q, q = xa.heap.size := ⟨_, rfl⟩
        rw [← hgk] at VK ⊢
        clear hgk
        refine wpAnyH_ready (rs := [7]) (by kernel_rfl) (by simp) ?_
        refine AllReadyH.cons (by simp only [List.getElem?_toArray, List.getElem?_cons_succ, List.getElem?_cons_zero]; rfl) (fun K hK => ?_) AllReadyH.nil
        obtain ⟨k0, k1, -, -⟩ := var2_facts VK.out
        refine step_appK (by rfl) _ _ (by rfl) _ _ ks N M gk 1 id' r (by rfl) (by rfl) OK.out HM.out ZN.out k0 k1 rfl (OBy.out.mono (Nat.le_refl _) (Nat.le_of_lt SA.out)) (by have := hk; omega) ?_
        intro g5 c5 xd hO hG
        have HY := hid hO
        have HZ := hid hG
        refine hK.out _ _ trivial (fun hH => ?_)
        clear hK K hO hG k0 k1
        refine wpAnyH_take (i := 8) (v := .pointer (some ⟨gw, 1, none⟩)) (by simp only [List.getElem?_toArray, List.getElem?_cons_succ, List.getElem?_cons_zero]; rfl) (by kernel_rfl) (by kernel_rfl) (by kernel_rfl) (by intro _ _ _ h; exact h) (Or.inl ⟨by rfl, fun w hS => by go_simp⟩) hH ?_
        simp only [Act.put, List.setIfInBounds_toArray, List.set_cons_zero, List.set_cons_succ]
        refine wpAnyH_ready (rs := [9]) (by kernel_rfl) (by simp) ?_
        refine AllReadyH.cons (by simp only [List.getElem?_toArray, List.getElem?_cons_succ, List.getElem?_cons_zero]; rfl) (fun K hK => ?_) AllReadyH.nil
        have AW := hid (fun b e => (OKs.row OK.out (Nat.le_refl N) b e))
        have LN := hid (show xb.heap.size ≤ xd.heap.size from HZ.out.size)
        have VW2 := hid (var_grown HZ.out VW.out (fun e => by have := AW.out _ e.symm; have := LQ.out; omega))
        have VR2 := hid (var_grown HZ.out VR.out (fun e => by have := AW.out _ e.symm; have := LQ.out; omega))
        have S2 := hid (S.out.grown HZ.out (fun e => by have := AW.out _ e.symm; have := GV.out; omega) (fun b e => by have := AW.out b e; have := LQ.out; have := NV.out; omega))
        have G2 := hid (grownNk G.out HZ.out (fun b e => by have := AW.out b e; have := LQ.out; omega))
        obtain ⟨zs, hz⟩ : ∃ z, z = (ks ++ [(id', r)]) := ⟨_, rfl⟩
        have ZL := hid (show zs.length = ks.length + 1 by rw [hz]; simp)
        have KZ := hid (show KOk zs by rw [hz]; exact kok_snoc KO.out hi KN.out)
        replace HY := hid (show OKs xd N xd.heap.size (.slice (some ⟨g5, 0, none⟩) (ks.length + 1) c5) zs by rw [hz]; exact HY.out)
        clear hz
        obtain ⟨q0, q1, z0, z1⟩ := var2_facts VW2.out
        go_simp
        have VW3 := hid (show (xd.setCell ⟨gw, 1, none⟩ (.slice (some ⟨g5, 0, none⟩) (ks.length + 1) c5)).heap[gw]? = some (.cells #[.int .i64 0, .slice (some ⟨g5, 0, none⟩) (ks.length + 1) c5] 38) by simpa using heap_setCell_same xd gw 1 _ _ (.slice (some ⟨g5, 0, none⟩) (ks.length + 1) c5) VW2.out)
        have OK3 := hid (HY.out.low ⟨gw, 1, none⟩ (by have := LQ.out; show gw < N; omega) (.slice (some ⟨g5, 0, none⟩) (ks.length + 1) c5))
        have VR3 := hid (set1_otherk (i := 1) (x := .slice (some ⟨g5, 0, none⟩) (ks.length + 1) c5) NRW.out VR2.out)
        have S3 := hid (src_set (i := 1) (V := gw) S2.out (fun e => NVW.out e.symm) (by have := LQ.out; have := NV.out; omega) (.slice (some ⟨g5, 0, none⟩) (ks.length + 1) c5))
        have G3 := hid (grown_set (i := 1) (V := gw) G2.out (by have := LQ.out; omega) (.slice (some ⟨g5, 0, none⟩) (ks.length + 1) c5))
        have ZZ := hid (show N ≤ (xd.setCell ⟨gw, 1, none⟩ (.slice (some ⟨g5, 0, none⟩) (ks.length + 1) c5)).heap.size by have := ZN.out; have := HM.out; have := LN.out; simp [World.setCell]; omega)
        refine hK.out _ _ trivial (fun hH => ?_)
        clear hK K q0 q1 z0 z1
        replace OK3 := hid (OK3.out.mono (Nat.le_refl N) (show xd.heap.size ≤ (xd.setCell ⟨gw, 1, none⟩ (.slice (some ⟨g5, 0, none⟩) (ks.length + 1) c5)).heap.size by simp [World.setCell]))
        generalize xd.setCell ⟨gw, 1, none⟩ (.slice (some ⟨g5, 0, none⟩) (ks.length + 1) c5) = xe at *
        refine wpAnyH_done (by kernel_rfl) ?_ _
        go_wp2_with fail
        have S := S3
        refine (next w0 xe g v l _ 2 S.out (by omega) (by omega) hl).mono ?_
        rintro e xf ⟨r2, rfl, hr2, hS, hG⟩
        have hr2 := hr2 (by omega)
        have VW := hid (var_grown hG VW3.out (fun e => by have := Option.some.inj e; have := NVW.out; omega))
        have VR := hid (var_grown hG VR3.out (fun e => by have := Option.some.inj e; have := NVR.out; omega))
        have OK := hid ((OK3.out.keepGk hG GV.out (Nat.le_refl _)).mono (Nat.le_refl _) hG.size)
        have ZN := hid (Nat.le_trans ZZ.out hG.size)
        have G := hid (grown_trans G3.out hG)
        have S := hid hS
        have e9 : wrap64 (wrap64 (id' + 1) + r2) = id' + 1 + r2 := by unfold wrap64; omega
        clear hS hG
        go_wp2
        go_roundw
        case rel => exact ⟨m - 1, id' + 1 + r2, _, zs, _, by go_num, by go_num, by have := ZL.out; omega, by omega, by omega, KZ, VW, VR, OK, ZN, S, G⟩
        case measure => simp [intOf]; omega
      refine AllReadyH.cons (by simp only [List.getElem?_toArray, List.getElem?_cons_succ, List.getElem?_cons_zero]; rfl) (fun K hK => ?_) ?_
      · go_simp
        refine (l4y id' _).mono ?_
        rintro e xa ⟨ub, r, rfl, hO, hr, hy, hM⟩
        obtain ⟨pb, cb, rfl, -, -, -⟩ := hO.rd.parts
        have OBy := hid ((OB.of hO.x).mono (show M ≤ x.heap.size from HM.out) (Nat.le_refl _))
        have KN := hid (show r.length = 16 ∧ Byt r from ⟨hr, hy⟩)
        replace S := hid (S.out.later hM)
        replace OK := hid (OK.out.below hM)
        replace VR := hid (var_below hM VR.out)
        replace VW := hid (var_below hM VW.out)
        replace HM := hid (Nat.le_trans HM.out hM.size)
        replace G := hid (grown_trans G.out (grown_of_below hM (some g)))
        clear hM
        refine hK.out _ _ trivial (fun hH => ?_)
        clear hK K hO hr hy
        refine wpAnyH_take (i := 5) (v := .agg #[.int .i64 id', .slice pb r.length cb]) (by simp only [List.getElem?_toArray, List.getElem?_cons_succ, List.getElem?_cons_zero]; rfl) (by kernel_rfl) (by kernel_rfl) (by kernel_rfl) (by intro _ _ _ h; exact h) (Or.inl ⟨by rfl, fun w hS => by go_simp⟩) hH ?_
        simp only [Act.put, List.setIfInBounds_toArray, List.set_cons_zero, List.set_cons_succ]
        refine wpAnyH_ready (rs := [1, 6]) (by kernel_rfl) (by simp) ?_
        refine AllReadyH.cons (by simp only [List.getElem?_toArray, List.getElem?_cons_succ, List.getElem?_cons_zero]; rfl) (fun K hK => ?_) ?_
        · obtain ⟨q0, q1, -, -⟩ := var2_facts VW.out
          go_simp
          refine hK.out _ _ trivial (fun hH => ?_)
          clear hK K q0 q1
          refine wpAnyH_ready (rs := [6]) (by kernel_rfl) (by simp) ?_
          refine AllReadyH.cons (by simp only [List.getElem?_toArray, List.getElem?_cons_succ, List.getElem?_cons_zero]; rfl) (fun K hK => ?_) AllReadyH.nil
          go_simp
          have VK := hid (heap_alloc_new xa (.cells #[.int .i64 id', .slice pb r.length cb] 40))
          have hA := below_alloc1 xa (.cells #[.int .i64 id', .slice pb r.length cb] 40)
          replace S := hid (S.out.later hA)
          replace OK := hid (OK.out.below hA)
          replace VR := hid (var_below hA VR.out)
          replace VW := hid (var_below hA VW.out)
          replace OBy := hid (OBy.out.below hA)
          replace HM := hid (Nat.le_trans HM.out hA.size)
          replace G := hid (grown_trans G.out (grown_of_below hA (some g)))
          clear hA
          refine hK.out _ _ trivial (fun hH => ?_)
          clear hK K
          have SA := hid (show xa.heap.size < (xa.alloc (.cells #[.int .i64 id', .slice pb r.length cb] 40)).heap.size by simp)
          generalize xa.alloc (.cells #[.int .i64 id', .slice pb r.length cb] 40) = xb at *
          obtain ⟨gk, hgk⟩ : ∃ q, q = xa.heap.size := ⟨_, rfl⟩
          rw [← hgk] at VK ⊢
          clear hgk
          refine wpAnyH_ready (rs := [7]) (by kernel_rfl) (by simp) ?_
          refine AllReadyH.cons (by simp only [List.getElem?_toArray, List.getElem?_cons_succ, List.getElem?_cons_zero]; rfl) (fun K hK => ?_) AllReadyH.nil
          obtain ⟨k0, k1, -, -⟩ := var2_facts VK.out
          refine step_appK (by rfl) _ _ (by rfl) _ _ ks N M gk 1 id' r (by rfl) (by rfl) OK.out HM.out ZN.out k0 k1 rfl (OBy.out.mono (Nat.le_refl _) (Nat.le_of_lt SA.out)) (by have := hk; omega) ?_
          intro g5 c5 xd hO hG
          have HY := hid hO
          have HZ := hid hG
          refine hK.out _ _ trivial (fun hH => ?_)
          clear hK K hO hG k0 k1
          refine wpAnyH_take (i := 8) (v := .pointer (some ⟨gw, 1, none⟩)) (by simp only [List.getElem?_toArray, List.getElem?_cons_succ, List.getElem?_cons_zero]; rfl) (by kernel_rfl) (by kernel_rfl) (by kernel_rfl) (by intro _ _ _ h; exact h) (Or.inl ⟨by rfl, fun w hS => by go_simp⟩) hH ?_
          simp only [Act.put, List.setIfInBounds_toArray, List.set_cons_zero, List.set_cons_succ]
          refine wpAnyH_ready (rs := [9]) (by kernel_rfl) (by simp) ?_
          refine AllReadyH.cons (by simp only [List.getElem?_toArray, List.getElem?_cons_succ, List.getElem?_cons_zero]; rfl) (fun K hK => ?_) AllReadyH.nil
          have AW := hid (fun b e => (OKs.row OK.out (Nat.le_refl N) b e))
          have LN := hid (show xb.heap.size ≤ xd.heap.size from HZ.out.size)
          have VW2 := hid (var_grown HZ.out VW.out (fun e => by have := AW.out _ e.symm; have := LQ.out; omega))
          have VR2 := hid (var_grown HZ.out VR.out (fun e => by have := AW.out _ e.symm; have := LQ.out; omega))
          have S2 := hid (S.out.grown HZ.out (fun e => by have := AW.out _ e.symm; have := GV.out; omega) (fun b e => by have := AW.out b e; have := LQ.out; have := NV.out; omega))
          have G2 := hid (grownNk G.out HZ.out (fun b e => by have := AW.out b e; have := LQ.out; omega))
          obtain ⟨zs, hz⟩ : ∃ z, z = (ks ++ [(id', r)]) := ⟨_, rfl⟩
          have ZL := hid (show zs.length = ks.length + 1 by rw [hz]; simp)
          have KZ := hid (show KOk zs by rw [hz]; exact kok_snoc KO.out hi KN.out)
          replace HY := hid (show OKs xd N xd.heap.size (.slice (some ⟨g5, 0, none⟩) (ks.length + 1) c5) zs by rw [hz]; exact HY.out)
          clear hz
          obtain ⟨q0, q1, z0, z1⟩ := var2_facts VW2.out
          go_simp
          have VW3 := hid (show (xd.setCell ⟨gw, 1, none⟩ (.slice (some ⟨g5, 0, none⟩) (ks.length + 1) c5)).heap[gw]? = some (.cells #[.int .i64 0, .slice (some ⟨g5, 0, none⟩) (ks.length + 1) c5] 38) by simpa using heap_setCell_same xd gw 1 _ _ (.slice (some ⟨g5, 0, none⟩) (ks.length + 1) c5) VW2.out)
          have OK3 := hid (HY.out.low ⟨gw, 1, none⟩ (by have := LQ.out; show gw < N; omega) (.slice (some ⟨g5, 0, none⟩) (ks.length + 1) c5))
          have VR3 := hid (set1_otherk (i := 1) (x := .slice (some ⟨g5, 0, none⟩) (ks.length + 1) c5) NRW.out VR2.out)
          have S3 := hid (src_set (i := 1) (V := gw) S2.out (fun e => NVW.out e.symm) (by have := LQ.out; have := NV.out; omega) (.slice (some ⟨g5, 0, none⟩) (ks.length + 1) c5))
          have G3 := hid (grown_set (i := 1) (V := gw) G2.out (by have := LQ.out; omega) (.slice (some ⟨g5, 0, none⟩) (ks.length + 1) c5))
          have ZZ := hid (show N ≤ (xd.setCell ⟨gw, 1, none⟩ (.slice (some ⟨g5, 0, none⟩) (ks.length + 1) c5)).heap.size by have := ZN.out; have := HM.out; have := LN.out; simp [World.setCell]; omega)
          refine hK.out _ _ trivial (fun hH => ?_)
          clear hK K q0 q1 z0 z1
          replace OK3 := hid (OK3.out.mono (Nat.le_refl N) (show xd.heap.size ≤ (xd.setCell ⟨gw, 1, none⟩ (.slice (some ⟨g5, 0, none⟩) (ks.length + 1) c5)).heap.size by simp [World.setCell]))
          generalize xd.setCell ⟨gw, 1, none⟩ (.slice (some ⟨g5, 0, none⟩) (ks.length + 1) c5) = xe at *
          refine wpAnyH_done (by kernel_rfl) ?_ _
          go_wp2_with fail
          have S := S3
          refine (next w0 xe g v l _ 2 S.out (by omega) (by omega) hl).mono ?_
          rintro e xf ⟨r2, rfl, hr2, hS, hG⟩
          have hr2 := hr2 (by omega)
          have VW := hid (var_grown hG VW3.out (fun e => by have := Option.some.inj e; have := NVW.out; omega))
          have VR := hid (var_grown hG VR3.out (fun e => by have := Option.some.inj e; have := NVR.out; omega))
          have OK := hid ((OK3.out.keepGk hG GV.out (Nat.le_refl _)).mono (Nat.le_refl _) hG.size)
          have ZN := hid (Nat.le_trans ZZ.out hG.size)
          have G := hid (grown_trans G3.out hG)
          have S := hid hS
          have e9 : wrap64 (wrap64 (id' + 1) + r2) = id' + 1 + r2 := by unfold wrap64; omega
          clear hS hG
          go_wp2
          go_roundw
          case rel => exact ⟨m - 1, id' + 1 + r2, _, zs, _, by go_num, by go_num, by have := ZL.out; omega, by omega, by omega, KZ, VW, VR, OK, ZN, S, G⟩
          case measure => simp [intOf]; omega
        refine AllReadyH.cons (by simp only [List.getElem?_toArray, List.getElem?_cons_succ, List.getElem?_cons_zero]; rfl) (fun K hK => ?_) ?_
        · go_simp
          have VK := hid (heap_alloc_new xa (.cells #[.int .i64 id', .slice pb r.length cb] 40))
          have hA := below_alloc1 xa (.cells #[.int .i64 id', .slice pb r.length cb] 40)
          replace S := hid (S.out.later hA)
          replace OK := hid (OK.out.below hA)
          replace VR := hid (var_below hA VR.out)
          replace VW := hid (var_below hA VW.out)
          replace OBy := hid (OBy.out.below hA)
          replace HM := hid (Nat.le_trans HM.out hA.size)
          replace G := hid (grown_trans G.out (grown_of_below hA (some g)))
          clear hA
          refine hK.out _ _ trivial (fun hH => ?_)
          clear hK K
          have SA := hid (show xa.heap.size < (xa.alloc (.cells #[.int .i64 id', .slice pb r.length cb] 40)).heap.size by simp)
          generalize xa.alloc (.cells #[.int .i64 id', .slice pb r.length cb] 40) = xb at *
          obtain ⟨gk, hgk⟩ : ∃ q, q = xa.heap.size := ⟨_, rfl⟩
          rw [← hgk] at VK ⊢
          clear hgk
          refine wpAnyH_ready (rs := [1]) (by kernel_rfl) (by simp) ?_
          refine AllReadyH.cons (by simp only [List.getElem?_toArray, List.getElem?_cons_succ, List.getElem?_cons_zero]; rfl) (fun K hK => ?_) AllReadyH.nil
          obtain ⟨q0, q1, -, -⟩ := var2_facts VW.out
          go_simp
          refine hK.out _ _ trivial (fun hH => ?_)
          clear hK K q0 q1
          refine wpAnyH_ready (rs := [7]) (by kernel_rfl) (by simp) ?_
          refine AllReadyH.cons (by simp only [List.getElem?_toArray, List.getElem?_cons_succ, List.getElem?_cons_zero]; rfl) (fun K hK => ?_) AllReadyH.nil
          obtain ⟨k0, k1, -, -⟩ := var2_facts VK.out
          refine step_appK (by rfl) _ _ (by rfl) _ _ ks N M gk 1 id' r (by rfl) (by rfl) OK.out HM.out ZN.out k0 k1 rfl (OBy.out.mono (Nat.le_refl _) (Nat.le_of_lt SA.out)) (by have := hk; omega) ?_
          intro g5 c5 xd hO hG
          have HY := hid hO
          have HZ := hid hG
          refine hK.out _ _ trivial (fun hH => ?_)
          clear hK K hO hG k0 k1
          refine wpAnyH_take (i := 8) (v := .pointer (some ⟨gw, 1, none⟩)) (by simp only [List.getElem?_toArray, List.getElem?_cons_succ, List.getElem?_cons_zero]; rfl) (by kernel_rfl) (by kernel_rfl) (by kernel_rfl) (by intro _ _ _ h; exact h) (Or.inl ⟨by rfl, fun w hS => by go_simp⟩) hH ?_
          simp only [Act.put, List.setIfInBounds_toArray, List.set_cons_zero, List.set_cons_succ]
          refine wpAnyH_ready (rs := [9]) (by kernel_rfl) (by simp) ?_
          refine AllReadyH.cons (by simp only [List.getElem?_toArray, List.getElem?_cons_succ, List.getElem?_cons_zero]; rfl) (fun K hK => ?_) AllReadyH.nil
          have AW := hid (fun b e => (OKs.row OK.out (Nat.le_refl N) b e))
          have LN := hid (show xb.heap.size ≤ xd.heap.size from HZ.out.size)
          have VW2 := hid (var_grown HZ.out VW.out (fun e => by have := AW.out _ e.symm; have := LQ.out; omega))
          have VR2 := hid (var_grown HZ.out VR.out (fun e => by have := AW.out _ e.symm; have := LQ.out; omega))
          have S2 := hid (S.out.grown HZ.out (fun e => by have := AW.out _ e.symm; have := GV.out; omega) (fun b e => by have := AW.out b e; have := LQ.out; have := NV.out; omega))
          have G2 := hid (grownNk G.out HZ.out (fun b e => by have := AW.out b e; have := LQ.out; omega))
          obtain ⟨zs, hz⟩ : ∃ z, z = (ks ++ [(id', r)]) := ⟨_, rfl⟩
          have ZL := hid (show zs.length = ks.length + 1 by rw [hz]; simp)
          have KZ := hid (show KOk zs by rw [hz]; exact kok_snoc KO.out hi KN.out)
          replace HY := hid (show OKs xd N xd.heap.size (.slice (some ⟨g5, 0, none⟩) (ks.length + 1) c5) zs by rw [hz]; exact HY.out)
          clear hz
          obtain ⟨q0, q1, z0, z1⟩ := var2_facts VW2.out
          go_simp
          have VW3 := hid (show (xd.setCell ⟨gw, 1, none⟩ (.slice (some ⟨g5, 0, none⟩) (ks.length + 1) c5)).heap[gw]? = some (.cells #[.int .i64 0, .slice (some ⟨g5, 0, none⟩) (ks.length + 1) c5] 38) by simpa using heap_setCell_same xd gw 1 _ _ (.slice (some ⟨g5, 0, none⟩) (ks.length + 1) c5) VW2.out)
          have OK3 := hid (HY.out.low ⟨gw, 1, none⟩ (by have := LQ.out; show gw < N; omega) (.slice (some ⟨g5, 0, none⟩) (ks.length + 1) c5))
          have VR3 := hid (set1_otherk (i := 1) (x := .slice (some ⟨g5, 0, none⟩) (ks.length + 1) c5) NRW.out VR2.out)
          have S3 := hid (src_set (i := 1) (V := gw) S2.out (fun e => NVW.out e.symm) (by have := LQ.out; have := NV.out; omega) (.slice (some ⟨g5, 0, none⟩) (ks.length + 1) c5))
          have G3 := hid (grown_set (i := 1) (V := gw) G2.out (by have := LQ.out; omega) (.slice (some ⟨g5, 0, none⟩) (ks.length + 1) c5))
          have ZZ := hid (show N ≤ (xd.setCell ⟨gw, 1, none⟩ (.slice (some ⟨g5, 0, none⟩) (ks.length + 1) c5)).heap.size by have := ZN.out; have := HM.out; have := LN.out; simp [World.setCell]; omega)
          refine hK.out _ _ trivial (fun hH => ?_)
          clear hK K q0 q1 z0 z1
          replace OK3 := hid (OK3.out.mono (Nat.le_refl N) (show xd.heap.size ≤ (xd.setCell ⟨gw, 1, none⟩ (.slice (some ⟨g5, 0, none⟩) (ks.length + 1) c5)).heap.size by simp [World.setCell]))
          generalize xd.setCell ⟨gw, 1, none⟩ (.slice (some ⟨g5, 0, none⟩) (ks.length + 1) c5) = xe at *
          refine wpAnyH_done (by kernel_rfl) ?_ _
          go_wp2_with fail
          have S := S3
          refine (next w0 xe g v l _ 2 S.out (by omega) (by omega) hl).mono ?_
          rintro e xf ⟨r2, rfl, hr2, hS, hG⟩
          have hr2 := hr2 (by omega)
          have VW := hid (var_grown hG VW3.out (fun e => by have := Option.some.inj e; have := NVW.out; omega))
          have VR := hid (var_grown hG VR3.out (fun e => by have := Option.some.inj e; have := NVR.out; omega))
          have OK := hid ((OK3.out.keepGk hG GV.out (Nat.le_refl _)).mono (Nat.le_refl _) hG.size)
          have ZN := hid (Nat.le_trans ZZ.out hG.size)
          have G := hid (grown_trans G3.out hG)
          have S := hid hS
          have e9 : wrap64 (wrap64 (id' + 1) + r2) = id' + 1 + r2 := by unfold wrap64; omega
          clear hS hG
          go_wp2
          go_roundw
          case rel => exact ⟨m - 1, id' + 1 + r2, _, zs, _, by go_num, by go_num, by have := ZL.out; omega, by omega, by omega, KZ, VW, VR, OK, ZN, S, G⟩
          case measure => simp [intOf]; omega
        exact AllReadyH.nil
      exact AllReadyH.nil
    · obtain rfl : m = 0 := by omega
      clear hlt
      have hk1 : 1 ≤ ks.length ∧ ks.length ≤ 3 := by omega
      go_wp2
      obtain ⟨y0, y1, -, -⟩ := var2_facts VW.out
      refine wp_region_held_drew (S := fun w' => w'.cell? ⟨gw, 1, none⟩ = some (.slice pu ks.length cu)) (by kernel_rfl) y1 (fun hH => ?_)
      clear y0 y1
      have VWd := hid (show wr.drew.heap[gw]? = some (.cells #[.int .i64 0, .slice pu ks.length cu] 38) from VW.out)
      have VRd := hid (show wr.drew.heap[gr]? = some (.cells #[.int .i64 0, .slice none 0 0] 38) from VR.out)
      have OKd := hid (show OKs wr.drew N wr.drew.heap.size _ ks from OK.out.agr (fun _ _ _ => rfl))
      have Sd := hid (S.out.drewN 1)
      have Gd := hid (grown_drewN G.out 1)
      have ZNd := hid (show N ≤ wr.drew.heap.size from ZN.out)
      change Hid (Src w0 wr.drew g v l _) at Sd
      change Hid (w.grownBy wr.drew (some g)) at Gd
      generalize wr.drew = x at *
      have VW := VWd
      have VR := VRd
      have OK := OKd
      have S := Sd
      have G := Gd
      have ZN := ZNd
      obtain ⟨M, hM⟩ : ∃ q, q = x.heap.size := ⟨_, rfl⟩
      rw [← hM] at OK ZN
      have HM := hid (Nat.le_of_eq hM)
      clear hM
      refine wpAnyH_take (i := 0) (v := .pointer (some ⟨gw, 1, none⟩)) (by simp only [List.getElem?_toArray, List.getElem?_cons_zero]; rfl) (by kernel_rfl) (by kernel_rfl) (by kernel_rfl) (by intro _ _ _ h; exact h) (Or.inl ⟨by rfl, fun w hS => by go_simp⟩) hH ?_
      simp only [Act.put, List.setIfInBounds_toArray, List.set_cons_zero, List.set_cons_succ]
      refine wpAnyH_take (i := 1) (v := .slice pu ks.length cu) (by simp only [List.getElem?_toArray, List.getElem?_cons_succ, List.getElem?_cons_zero]; rfl) (by kernel_rfl) (by kernel_rfl) (by kernel_rfl) (by intro _ _ _ h; exact h) (Or.inl ⟨by rfl, fun w hS => by (have y1 := hS; go_simp)⟩) hH ?_
      simp only [Act.put, List.setIfInBounds_toArray, List.set_cons_zero, List.set_cons_succ]
      refine wpAnyH_take (i := 2) (v := .pointer (some ⟨g, 0, none⟩)) (by simp only [List.getElem?_toArray, List.getElem?_cons_succ, List.getElem?_cons_zero]; rfl) (by kernel_rfl) (by kernel_rfl) (by kernel_rfl) (by intro _ _ _ h; exact h) (Or.inl ⟨by rfl, fun w hS => by go_simp⟩) hH ?_
      simp only [Act.put, List.setIfInBounds_toArray, List.set_cons_zero, List.set_cons_succ]
      refine wpAnyH_take (i := 3) (v := .pointer (some ⟨gw, 1, none⟩)) (by simp only [List.getElem?_toArray, List.getElem?_cons_succ, List.getElem?_cons_zero]; rfl) (by kernel_rfl) (by kernel_rfl) (by kernel_rfl) (by intro _ _ _ h; exact h) (Or.inl ⟨by rfl, fun w hS => by go_simp⟩) hH ?_
      simp only [Act.put, List.setIfInBounds_toArray, List.set_cons_zero, List.set_cons_succ]
      refine wpAnyH_take (i := 4) (v := .slice pu ks.length cu) (by simp only [List.getElem?_toArray, List.getElem?_cons_succ, List.getElem?_cons_zero]; rfl) (by kernel_rfl) (by kernel_rfl) (by kernel_rfl) (by intro _ _ _ h; exact h) (Or.inl ⟨by rfl, fun w hS => by (have y1 := hS; go_simp)⟩) hH ?_
      simp only [Act.put, List.setIfInBounds_toArray, List.set_cons_zero, List.set_cons_succ]
      refine wpAnyH_take (i := 5) (v := .int .i64 ks.length) (by simp only [List.getElem?_toArray, List.getElem?_cons_succ, List.getElem?_cons_zero]; rfl) (by kernel_rfl) (by kernel_rfl) (by kernel_rfl) (by intro _ _ _ h; exact h) (Or.inl ⟨by rfl, fun w hS => by go_simp⟩) hH ?_
      simp only [Act.put, List.setIfInBounds_toArray, List.set_cons_zero, List.set_cons_succ]
      refine wpAnyH_ready (rs := [6]) (by kernel_rfl) (by simp) ?_
      refine AllReadyH.cons (by simp only [List.getElem?_toArray, List.getElem?_cons_succ, List.getElem?_cons_zero]; rfl) (fun K hK => ?_) AllReadyH.nil
      go_simp
      refine (next w0 x g v l _ ks.length S.out (by omega) (by omega) hl).mono ?_
      rintro e xa ⟨r, rfl, hr, hS, hG⟩
      obtain ⟨j, rfl, hj⟩ : ∃ j : Nat, r = (j : Int) ∧ j < ks.length := ⟨r.toNat, by have := hr (by omega); omega, by have := hr (by omega); omega⟩
      clear hr
      replace S := hid hS
      replace OK := hid (OK.out.keepGk hG GV.out HM.out)
      replace VR := hid (var_grown hG VR.out (fun e => by have := Option.some.inj e; have := NVR.out; omega))
      replace VW := hid (var_grown hG VW.out (fun e => by have := Option.some.inj e; have := NVW.out; omega))
      replace HM := hid (Nat.le_trans HM.out hG.size)
      replace G := hid (grown_trans G.out hG)
      clear hS hG
      refine hK.out _ _ (var2_facts VW.out).2.1 (fun hH => ?_)
      clear hK K
      obtain ⟨a2, c2, e, -, -, hcs⟩ := OK.out.rd.parts
      cases e
      obtain ⟨bk, ok, uk, rfl, ck0, -, -⟩ := hcs j hj
      have I1 := idx_kd bk ok ks.length cu j hj
      clear hcs
      refine wpAnyH_take (i := 7) (v := .pointer (some ⟨bk, ok + j * 2, none⟩)) (by simp only [List.getElem?_toArray, List.getElem?_cons_succ, List.getElem?_cons_zero]; rfl) (by kernel_rfl) (by kernel_rfl) (by kernel_rfl) (by intro _ _ _ h; exact h) (Or.inl ⟨by rfl, fun w hS => by go_simp⟩) hH ?_
      simp only [Act.put, List.setIfInBounds_toArray, List.set_cons_zero, List.set_cons_succ]
      refine wpAnyH_take (i := 8) (v := .pointer (some ⟨bk, ok + j * 2, none⟩)) (by simp only [List.getElem?_toArray, List.getElem?_cons_succ, List.getElem?_cons_zero]; rfl) (by kernel_rfl) (by kernel_rfl) (by kernel_rfl) (by intro _ _ _ h; exact h) (Or.inl ⟨by rfl, fun w hS => by go_simp⟩) hH ?_
      simp only [Act.put, List.setIfInBounds_toArray, List.set_cons_zero, List.set_cons_succ]
      refine wpAnyH_ready (rs := [9]) (by kernel_rfl) (by simp) ?_
      refine AllReadyH.cons (by simp only [List.getElem?_toArray, List.getElem?_cons_succ, List.getElem?_cons_zero]; rfl) (fun K hK => ?_) AllReadyH.nil
      go_simp
      refine hK.out _ _ hH (fun hH => ?_)
      clear hK K ck0 I1
      refine wpAnyH_take (i := 10) (v := .pointer (some ⟨gw, 0, none⟩)) (by simp only [List.getElem?_toArray, List.getElem?_cons_succ, List.getElem?_cons_zero]; rfl) (by kernel_rfl) (by kernel_rfl) (by kernel_rfl) (by intro _ _ _ h; exact h) (Or.inl ⟨by rfl, fun w hS => by go_simp⟩) hH ?_
      simp only [Act.put, List.setIfInBounds_toArray, List.set_cons_zero, List.set_cons_succ]
      have KP := hid ((KO.out _ (List.getElem_mem hj)).1)
      obtain ⟨pr, hpr⟩ : ∃ z, z = (ks[j]).1 := ⟨_, rfl⟩
      rw [← hpr] at KP ⊢
      clear hpr
      refine wpAnyH_ready (rs := [11]) (by kernel_rfl) (by simp) ?_
      refine AllReadyH.cons (by simp only [List.getElem?_toArray, List.getElem?_cons_succ, List.getElem?_cons_zero]; rfl) (fun K hK => ?_) AllReadyH.nil
      obtain ⟨q0, q1, z0, z1⟩ := var2_facts VW.out
      go_simp
      have VW3 := hid (show (xa.setCell ⟨gw, 0, none⟩ (.int .i64 pr)).heap[gw]? = some (.cells #[.int .i64 pr, .slice (some ⟨bk, ok, none⟩) ks.length cu] 38) by simpa using heap_setCell_same xa gw 0 _ _ (.int .i64 pr) VW.out)
      have OK3 := hid (((OK.out.mono (Nat.le_refl N) HM.out).low ⟨gw, 0, none⟩ (by have := LQ.out; show gw < N; omega) (.int .i64 pr)).mono (Nat.le_refl N) (show xa.heap.size ≤ (xa.setCell ⟨gw, 0, none⟩ (.int .i64 pr)).heap.size by simp [World.setCell]))
      have VR3 := hid (set1_otherk (i := 0) (x := .int .i64 pr) NRW.out VR.out)
      have S3 := hid (src_set (i := 0) (V := gw) S.out (fun e => NVW.out e.symm) (by have := LQ.out; have := NV.out; omega) (.int .i64 pr))
      have G3 := hid (grown_set (i := 0) (V := gw) G.out (by have := LQ.out; omega) (.int .i64 pr))
      refine hK.out _ _ (var2_facts VW3.out).2.1 (fun hH => ?_)
      clear hK K q0 q1 z0 z1
      generalize xa.setCell ⟨gw, 0, none⟩ (.int .i64 pr) = xe at *
      refine wpAnyH_done (by kernel_rfl) ?_ _
      obtain ⟨y0, y1, -, -⟩ := var2_facts VW3.out
      obtain ⟨u0, u1, z0, z1⟩ := var2_facts VR3.out
      have V2 := hid (var2_set (x' := .int .i64 pr) (y' := .slice (some ⟨bk, ok, none⟩) ks.length cu) VR3.out)
      have O2 := hid (((OK3.out.low ⟨gr, 0, none⟩ (by have := LQ.out; show gr < N; omega) (.int .i64 pr)).low ⟨gr, 1, none⟩ (by have := LQ.out; show gr < N; omega) (.slice (some ⟨bk, ok, none⟩) ks.length cu)).mono (Nat.le_refl N) (show xe.heap.size ≤ ((xe.setCell ⟨gr, 0, none⟩ (.int .i64 pr)).setCell ⟨gr, 1, none⟩ (.slice (some ⟨bk, ok, none⟩) ks.length cu)).heap.size by simp [World.setCell]))
      have S2 := hid (src_set (i := 1) (V := gr) (src_set (i := 0) (V := gr) S3.out (fun e => NVR.out e.symm) (by have := LQ.out; have := NV.out; omega) (.int .i64 pr)) (fun e => NVR.out e.symm) (by have := LQ.out; have := NV.out; omega) (.slice (some ⟨bk, ok, none⟩) ks.length cu))
      have G2 := hid (grown_set (i := 1) (V := gr) (grown_set (i := 0) (V := gr) G3.out (by have := LQ.out; omega) (.int .i64 pr)) (by have := LQ.out; omega) (.slice (some ⟨bk, ok, none⟩) ks.length cu))
      go_wp2
      try simp only [Exit.inBlock, Exit.then]
      exact bodyPost_ret (v := .agg #[.int .i64 pr, .slice (some ⟨bk, ok, none⟩) ks.length cu]) (results_cell_row rfl _ _ gr 38 _ _ _ rfl V2.out Try.underlying38 rfl (by kernel_rfl)) rfl ⟨pr, .slice (some ⟨bk, ok, none⟩) ks.length cu, ks, _, rfl, by rw [← LQ.out.2.2]; exact O2.out, hk1, KO.out, KP.out, by omega, S2.out, G2.out⟩
end Go.Proofs.Ytbfdbicddmffnab.W
