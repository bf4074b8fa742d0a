/-
  How windows are drawn. Generated text.
-/
import Derived.Deep.Cut
import Derived.Test.YtalaolfcdaaaoaaDrawC7
import Derived.Test.YtalaolfcdaaaoaaL6kW
import Derived.Test.YtalaolfcdaaaoaaL6W
import Derived.Test.YtalaolfcdaaaoaaNwW
import Derived.Test.YtalaolfcdaaaoaaAppZ
namespace Go.Proofs.Ytalaolfcdaaaoaa.M
open Go.ChangeShapes Go.WideShapes Go.ChangeAt Go.RowKit
open Go.Proofs.Ytalaolfcdaaaoaa.W

theorem grownNz {a b c : World} {g : Nat} {row : Option Nat} (h : a.grownBy b (some g)) (k : b.grownBy c row) (hr : ∀ x, row = some x → a.heap.size ≤ x) : a.grownBy c (some g) :=
  ⟨k.os.trans h.os, k.tape.trans h.tape, k.output.trans h.output, Nat.le_trans h.size k.size, fun i hi hne => (k.block i (Nat.lt_of_lt_of_le hi h.size) (fun e => by have := hr i e.symm; omega)).trans (h.block i hi hne)⟩
theorem OwZ.keepGz {w w' : World} {base g : Nat} {v : Value} {cs : List Int} (h : OwZ w base v cs) (hG : w.grownBy w' (some g)) (hg : g < base) : OwZ w' base v cs :=
  h.kept hG (by
    cases e : v.ownBlock with
    | none => exact .inl rfl
    | some b => exact .inr (fun q => by have := (h.lt b e).1; have := Option.some.inj q; omega))
theorem grown_set1z (w : World) (g i : Nat) (v : Value) : w.grownBy (w.setCell ⟨g, i, none⟩ v) (some g) :=
  ⟨rfl, rfl, rfl, by simp, fun k _ hne => Below.heap_setCell _ _ _ _ (show k ≠ g from fun e => hne (by rw [e]))⟩
theorem OwZ.setNz {w : World} {base g i : Nat} {v x : Value} {cs : List Int} (h : OwZ w base v cs) (hg : ∀ b, v.ownBlock = some b → b ≠ g) : OwZ (w.setCell ⟨g, i, none⟩ x) base v cs :=
  h.kept (grown_set1z w g i x) (by
    cases e : v.ownBlock with
    | none => exact .inl rfl
    | some b => exact .inr (fun q => hg b e (Option.some.inj q)))
theorem OwZ.drewz {w : World} {base : Nat} {v : Value} {cs : List Int} (h : OwZ w base v cs) : OwZ w.drew base v cs := h
theorem set1_other {w : World} {g k i : Nat} {x : Value} {o : Obj} (hne : g ≠ k) (h : w.heap[g]? = some o) : (w.setCell ⟨k, i, none⟩ x).heap[g]? = some o := by
  rw [Below.heap_setCell _ _ _ _ hne]; exact h
theorem set2_other {w : World} {g k : Nat} {x y : Value} {o : Obj} (hne : g ≠ k) (h : w.heap[g]? = some o) : ((w.setCell ⟨k, 0, none⟩ x).setCell ⟨k, 1, none⟩ y).heap[g]? = some o := set1_other hne (set1_other hne h)
theorem wok_new : WOk (-1) [] := ⟨by omega, fun x hx => by simp at hx, .nil, fun h => by omega⟩
theorem lit_wf {x : Int} (h : -1000000000 ≤ x ∧ x ≤ 2000000000) : (Lit.int .i64 x).wf = true := by
  simp only [Lit.wf, decide_eq_true_eq, Bool.and_eq_true]
  have h1 : IntKind.i64.min = -9223372036854775808 := by decide
  have h2 : IntKind.i64.max = 9223372036854775807 := by decide
  omega
theorem wok_wf {top : Int} {xs : List Int} (h : WOk top xs) : WfZ xs := fun x hx => lit_wf (by have := h.mem x hx; have := h.rng; omega)
theorem wf_snoc {top y : Int} {xs : List Int} (h : WfZ xs) (hr : -1 ≤ top ∧ top ≤ 1000000000) (hy : y ∈ [0, -1, top, top + 1]) : WfZ (xs ++ [y]) := fun x hx => by
  rcases List.mem_append.1 hx with q | q
  · exact h x q
  · obtain rfl := List.mem_singleton.1 q
    exact lit_wf (by simp at hy; omega)
theorem top_succ {top : Int} (hr : -1 ≤ top ∧ top ≤ 1000000000) : IntKind.i64.wrap (top + 1) = top + 1 := by
  rw [IntKind.wrap_i64]
  omega
theorem own_tag {w : World} {base g : Nat} {v : Value} {ys : List Int} {cs : Array Value} (h : OwZ w base v ys) (hw : w.heap[g]? = some (.cells cs 69)) : ∀ b, v.ownBlock = some b → b ≠ g := by
  rintro b e rfl
  rcases h.2 with ⟨rfl, -⟩ | ⟨g', c, cur, rfl, -, hh, -⟩
  · cases e
  · obtain rfl : g' = b := by simpa [Value.ownBlock] using e
    rw [hh] at hw
    simp at hw
theorem split8 {A B C D I J K : Type} {P F : A → B → C → D → I → J → K → Prop} {G : Prop} (main : (∀ a b c d i j k, F a b c d i j k → P a b c d i j k) → G) (leaf : ∀ a b c d i j k, F a b c d i j k → P a b c d i j k) : G := main leaf
end Go.Proofs.Ytalaolfcdaaaoaa.M
namespace Go.Proofs.Ytalaolfcdaaaoaa.W
open Go.ChangeShapes Go.WideShapes Go.ChangeAt Go.RowKit
open Go.Proofs.Ytalaolfcdaaaoaa.M

set_option maxHeartbeats 8000000 in
set_option maxRecDepth 100000 in
theorem l6d (w0 w : World) (g : Nat) (v : Value) (l : List Nat) (t : Nat) (h : Src w0 w g v l t) (ht : t ≤ 700000) (hl : l.length ≤ 1048576) :
    Calls Try.prog 103 #[.pointer (some ⟨g, 0, none⟩)] w fun e w' => ∃ (top : Int) (u : Value) (xs : List Int) (t' : Nat), e = .returned (.agg #[.int .i64 top, u]) ∧ OwZ w' w.heap.size u xs ∧ WOk top xs ∧ t' ≤ t + 20 ∧ Src w0 w' g v l t' ∧ w.grownBy w' (some g) := by
  have GV := hid (show g < w.heap.size from var_lt h.cells)
  have NV := hid (show w0.heap.size ≤ w.heap.size from h.bel.size)
  have S := hid (h.later (below_alloc1 w (.cells #[.int .i64 0, .slice none 0 0] 69)))
  have G := hid (grown_of_below (below_alloc1 w (.cells #[.int .i64 0, .slice none 0 0] 69)) (some g))
  have VR := hid (heap_alloc_new w (.cells #[.int .i64 0, .slice none 0 0] 69))
  clear h
  go_enter Try.func103, Try.ntmps103
  go_wp2_with fail
  generalize w.alloc (.cells #[.int .i64 0, .slice none 0 0] 69) = x0 at *
  obtain ⟨gr, hg⟩ : ∃ g, g = w.heap.size := ⟨_, rfl⟩
  rw [← hg] at VR ⊢
  have NVR := hid (show gr ≠ g by have := GV.out; omega)
  have GR := hid hg
  clear hg
  refine (snw _).mono ?_
  rintro e x1 ⟨rfl, hB⟩
  replace S := hid (S.out.later hB)
  replace VR := hid (var_below hB VR.out)
  replace G := hid (grown_trans G.out (grown_of_below hB (some g)))
  clear hB
  have VW := hid (heap_alloc_new x1 (.cells #[.int .i64 (-1), .slice none 0 0] 69))
  have hA := below_alloc1 x1 (.cells #[.int .i64 (-1), .slice none 0 0] 69)
  have GQ := hid (show w.heap.size ≤ x1.heap.size from G.out.size)
  have LVR := hid (var_lt VR.out)
  replace S := hid (S.out.later hA)
  replace VR := hid (var_below hA VR.out)
  replace G := hid (grown_trans G.out (grown_of_below hA (some g)))
  clear hA
  go_upto_region 2 with fail
  generalize x1.alloc (.cells #[.int .i64 (-1), .slice none 0 0] 69) = x2 at *
  obtain ⟨gw, hg⟩ : ∃ g, g = x1.heap.size := ⟨_, rfl⟩
  rw [← hg] at VW GQ LVR ⊢
  have NVW := hid (show gw ≠ g by have := GQ.out; have := GV.out; omega)
  have BVW := GQ
  clear hg GQ
  have GW := hid (show gr < gw from LVR.out)
  clear LVR
  have VL := hid (show Lst (x2.alloc (.cells #[.int .i64 0, .int .i64 0, .int .i64 5, .int .i64 900] 2)) x2.heap.size [0, 0, 5, 900] from heap_alloc_new x2 (.cells #[.int .i64 0, .int .i64 0, .int .i64 5, .int .i64 900] 2))
  have hA := below_alloc1 x2 (.cells #[.int .i64 0, .int .i64 0, .int .i64 5, .int .i64 900] 2)
  have NG := hid (show x2.heap.size ≠ g by have := var_lt S.out.cells; omega)
  replace S := hid (S.out.later hA)
  replace VR := hid (var_below hA VR.out)
  replace VW := hid (var_below hA VW.out)
  replace G := hid (grown_trans G.out (grown_of_below hA (some g)))
  clear hA
  go_wp2_with fail
  refine (pick' w0 _ g x2.heap.size 4 v l _ [0, 0, 5, 900] S.out (by omega) hl VL.out NG.out rfl (by omega) (by omega)).mono ?_
  rintro e x3 ⟨b, -, rfl, hS, hG⟩
  replace S := hid hS
  replace VR := hid (var_grown hG VR.out (fun e => by have := Option.some.inj e; have := NVR.out; omega))
  replace VW := hid (var_grown hG VW.out (fun e => by have := Option.some.inj e; have := NVW.out; omega))
  replace G := hid (grown_trans G.out hG)
  clear hS hG
  clear VL NG
  go_wp2_with fail
  refine (next w0 x3 g v l _ 9 S.out (by omega) (by omega) hl).mono ?_
  rintro e x4 ⟨n, rfl, hn, hS, hG⟩
  replace S := hid hS
  replace VR := hid (var_grown hG VR.out (fun e => by have := Option.some.inj e; have := NVR.out; omega))
  replace VW := hid (var_grown hG VW.out (fun e => by have := Option.some.inj e; have := NVW.out; omega))
  replace G := hid (grown_trans G.out hG)
  clear hS hG
  obtain ⟨m, rfl, hm⟩ : ∃ m : Nat, n = (m : Int) ∧ m ≤ 8 := ⟨n.toNat, by have := hn (by omega); omega, by have := hn (by omega); omega⟩
  clear hn
  go_wp2_with fail
  go_loopw [5, 6, 7] (fun n u6 u7 wr => ∃ m : Nat, ∃ v6 v7 : Value, ∃ top : Int, ∃ u : Value, ∃ xs : List Int, ∃ t' : Nat, n = .int .i64 m ∧ u6 = v6 ∧ u7 = v7 ∧ m ≤ 8 ∧ t' + m ≤ t + 12 ∧ Hid (WOk top xs) ∧ Hid (wr.heap[gw]? = some (.cells #[.int .i64 top, u] 69)) ∧ Hid (OwZ wr w.heap.size u xs) ∧ Hid (∀ b, u.ownBlock = some b → gw < b) ∧ Hid (wr.heap[gr]? = some (.cells #[.int .i64 0, .slice none 0 0] 69)) ∧ Hid (Src w0 wr g v l t') ∧ Hid (w.grownBy wr (some g))) (fun n _ _ _ => (intOf n).toNat)
  case atStart => exact ⟨m, _, _, -1, _, [], _, rfl, rfl, rfl, hm, by omega, hid wok_new, VW, hid (OwZ.nil _ _), hid (fun b e => by cases e), VR, S, G⟩
  case round =>
    clear VW VR S G hm
    obtain ⟨m, v6, v7, top, u, xs, t', rfl, rfl, rfl, hm, htt, WO, VW, OL, AW, VR, S, G⟩ := hrel
    obtain ⟨pu, cu, rfl, -, -, -⟩ := OL.out.rd.parts
    by_cases hlt : 0 < m
    · have hli : (0 : Int) < (m : Int) := by omega
      go_wp2_with fail
      refine (next w0 wr g v l _ 24 S.out (by omega) (by omega) hl).mono ?_
      rintro e w1 ⟨r, rfl, hr, hS, hG⟩
      replace S := hid hS
      replace OL := hid (OL.out.keepGz hG GV.out)
      replace VR := hid (var_grown hG VR.out (fun e => by have := Option.some.inj e; have := NVR.out; omega))
      replace VW := hid (var_grown hG VW.out (fun e => by have := Option.some.inj e; have := NVW.out; omega))
      replace G := hid (grown_trans G.out hG)
      clear hS hG
      go_wp2_with fail
      clear hr
      obtain ⟨N, hN⟩ : ∃ N, N = wrap64 (b + r) := ⟨_, rfl⟩
      rw [← hN]
      clear hN
      by_cases hc : M.tkC top xs N = 0
      · refine (l6t_ok gw top N _ xs _ VW.out OL.out.rd WO.out.rng hc (Nat.le_trans WO.out.len (by omega))).mono ?_
        rintro e w2 ⟨u2, rfl, hO, hB⟩
        obtain ⟨p2, c2, rfl, -, -, -⟩ := hO.rd.parts
        have LG := hid (show w.heap.size ≤ w1.heap.size ∧ gw < w1.heap.size from ⟨G.out.size, var_lt VW.out⟩)
        have ON := hid (hO.mono LG.out.1)
        have AN := hid (show ∀ b, (Value.slice p2 (insZ (tkT top N - 16) N xs).length c2).ownBlock = some b → gw < b from fun b e => by have := (hO.lt b e).1; have := LG.out.2; omega)
        have WN := hid (WO.out.take hc)
        replace S := hid (S.out.later hB)
        replace OL := hid (OL.out.below hB)
        replace VR := hid (var_below hB VR.out)
        replace VW := hid (var_below hB VW.out)
        replace G := hid (grown_trans G.out (grown_of_below hB (some g)))
        clear hB
        obtain ⟨T, hT⟩ : ∃ T, T = tkT top N := ⟨_, rfl⟩
        obtain ⟨ys, hy⟩ : ∃ ys, ys = insZ (tkT top N - 16) N xs := ⟨_, rfl⟩
        rw [← hy, ← hT] at WN
        rw [← hy] at ON AN
        rw [← hy, ← hT]
        clear hT hy hO hc OL WO AW LG
        have V6 := hid (heap_alloc_new w2 (.cells #[.int .i64 T, .slice p2 ys.length c2] 69))
        have hA := below_alloc1 w2 (.cells #[.int .i64 T, .slice p2 ys.length c2] 69)
        replace S := hid (S.out.later hA)
        replace ON := hid (ON.out.below hA)
        replace VR := hid (var_below hA VR.out)
        replace VW := hid (var_below hA VW.out)
        replace G := hid (grown_trans G.out (grown_of_below hA (some g)))
        clear hA
        obtain ⟨y0, y1, -, -⟩ := var2_facts V6.out
        obtain ⟨u0, u1, z0, z1⟩ := var2_facts VW.out
        have VN := hid (var2_set (x' := .int .i64 T) (y' := .slice p2 ys.length c2) VW.out)
        have O2 := hid ((ON.out.setNz (g := gw) (i := 0) (x := .int .i64 T) (fun b e => by have := AN.out b e; omega)).setNz (g := gw) (i := 1) (x := .slice p2 ys.length c2) (fun b e => by have := AN.out b e; omega))
        have R2 := hid (set2_other (x := .int .i64 T) (y := .slice p2 ys.length c2) (show gr ≠ gw by have := GW.out; omega) VR.out)
        have S2 := hid (src_set (i := 1) (V := gw) (src_set (i := 0) (V := gw) S.out (fun e => NVW.out e.symm) (by have := BVW.out; have := NV.out; omega) (.int .i64 T)) (fun e => NVW.out e.symm) (by have := BVW.out; have := NV.out; omega) (.slice p2 ys.length c2))
        have G2 := hid (grown_set (i := 1) (V := gw) (grown_set (i := 0) (V := gw) G.out BVW.out (.int .i64 T)) BVW.out (.slice p2 ys.length c2))
        clear ON VR S G VW
        go_wp2
        clear y0 y1 u0 u1 z0 z1 V6
        go_roundw
        case rel => exact ⟨m - 1, _, _, T, _, ys, _, by go_num, rfl, rfl, by omega, by omega, WN, VN, O2, AN, R2, S2, G2⟩
        case measure => simp [intOf]; omega
      · refine (l6t_no gw top N _ xs _ VW.out OL.out.rd WO.out.rng hc).mono ?_
        rintro e w2 ⟨rfl, hB⟩
        replace S := hid (S.out.later hB)
        replace OL := hid (OL.out.below hB)
        replace VR := hid (var_below hB VR.out)
        replace VW := hid (var_below hB VW.out)
        replace G := hid (grown_trans G.out (grown_of_below hB (some g)))
        clear hB
        obtain ⟨C, hC⟩ : ∃ C, C = M.tkC top xs N := ⟨_, rfl⟩
        rw [← hC] at hc
        rw [← hC]
        have nc : (C == 0) = false := by simpa using hc
        clear hC hc
        have V6 := hid (heap_alloc_new w2 (.cells #[.int .i64 0, .slice none 0 0] 69))
        have hA := below_alloc1 w2 (.cells #[.int .i64 0, .slice none 0 0] 69)
        replace S := hid (S.out.later hA)
        replace OL := hid (OL.out.below hA)
        replace VR := hid (var_below hA VR.out)
        replace VW := hid (var_below hA VW.out)
        replace G := hid (grown_trans G.out (grown_of_below hA (some g)))
        clear hA
        obtain ⟨y0, y1, -, -⟩ := var2_facts V6.out
        go_wp2
        clear y0 y1 V6
        go_roundw
        case rel => exact ⟨m - 1, _, _, top, _, xs, _, by go_num, rfl, rfl, by omega, by omega, WO, VW, OL, AW, VR, S, G⟩
        case measure => simp [intOf]; omega
    · obtain rfl : m = 0 := by omega
      have AR := hid (show ∀ b, (Value.slice pu xs.length cu).ownBlock = some b → b ≠ gr from fun b e => by have := AW.out b e; have := GW.out; omega)
      obtain ⟨y0, y1, -, -⟩ := var2_facts VW.out
      obtain ⟨u0, u1, z0, z1⟩ := var2_facts VR.out
      have V2 := hid (var2_set (x' := .int .i64 top) (y' := .slice pu xs.length cu) VR.out)
      have O2 := hid ((OL.out.setNz (g := gr) (i := 0) (x := .int .i64 top) AR.out).setNz (g := gr) (i := 1) (x := .slice pu xs.length cu) AR.out)
      have S2 := hid (src_set (i := 1) (V := gr) (src_set (i := 0) (V := gr) S.out (fun e => NVR.out e.symm) (by have := GR.out; have := NV.out; omega) (.int .i64 top)) (fun e => NVR.out e.symm) (by have := GR.out; have := NV.out; omega) (.slice pu xs.length cu))
      have G2 := hid (grown_set (i := 1) (V := gr) (grown_set (i := 0) (V := gr) G.out (by have := GR.out; omega) (.int .i64 top)) (by have := GR.out; omega) (.slice pu xs.length cu))
      clear OL S G
      go_wp2
      try simp only [Exit.inBlock, Exit.then]
      exact bodyPost_ret (v := .agg #[.int .i64 top, .slice pu xs.length cu]) (results_cell_row rfl _ _ gr 69 _ _ _ rfl V2.out Try.underlying69 rfl (by kernel_rfl)) rfl ⟨top, .slice pu xs.length cu, _, _, rfl, O2.out, WO.out, by omega, S2.out, G2.out⟩
set_option maxHeartbeats 8000000 in
set_option maxRecDepth 100000 in
theorem l6b (w0 w : World) (g : Nat) (v : Value) (l : List Nat) (t : Nat) (h : Src w0 w g v l t) (ht : t ≤ 700000) (hl : l.length ≤ 1048576) :
    Calls Try.prog 99 #[.pointer (some ⟨g, 0, none⟩)] w fun e w' => ∃ (top : Int) (u : Value) (xs : List Int) (t' : Nat), e = .returned (.agg #[.int .i64 top, u]) ∧ OwZ w' w.heap.size u xs ∧ (WfZ xs ∧ xs.length ≤ 20) ∧ t' ≤ t + 40 ∧ Src w0 w' g v l t' ∧ w.grownBy w' (some g) := by
  have GV := hid (show g < w.heap.size from var_lt h.cells)
  have NV := hid (show w0.heap.size ≤ w.heap.size from h.bel.size)
  have S := hid (h.later (below_alloc1 w (.cells #[.int .i64 0, .slice none 0 0] 69)))
  have G := hid (grown_of_below (below_alloc1 w (.cells #[.int .i64 0, .slice none 0 0] 69)) (some g))
  have VR := hid (heap_alloc_new w (.cells #[.int .i64 0, .slice none 0 0] 69))
  clear h
  go_enter Try.func99, Try.ntmps99
  go_wp2_with fail
  generalize w.alloc (.cells #[.int .i64 0, .slice none 0 0] 69) = x0 at *
  obtain ⟨gr, hg⟩ : ∃ g, g = w.heap.size := ⟨_, rfl⟩
  rw [← hg] at VR ⊢
  have NVR := hid (show gr ≠ g by have := GV.out; omega)
  have GR := hid hg
  clear hg
  refine (l6d w0 x0 g v l t S.out (by omega) hl).mono ?_
  rintro e x1 ⟨top, u, xs, t', rfl, hO, WO, htt, hS, hG⟩
  obtain ⟨pu, cu, rfl, -, -, -⟩ := hO.rd.parts
  have LX := hid (var_lt VR.out)
  have OL := hid (hO.mono (show w.heap.size ≤ x0.heap.size from G.out.size))
  have AR := hid (show ∀ b, (Value.slice pu xs.length cu).ownBlock = some b → b ≠ gr from fun b e => by have := (hO.lt b e).1; have := LX.out; omega)
  have WF := hid (show WfZ xs ∧ xs.length ≤ 16 from ⟨wok_wf WO, WO.len⟩)
  have RG := hid WO.rng
  clear hO WO LX
  replace S := hid hS
  replace VR := hid (var_grown hG VR.out (fun e => by have := Option.some.inj e; have := NVR.out; omega))
  replace G := hid (grown_trans G.out hG)
  clear hS hG
  have VW := hid (heap_alloc_new x1 (.cells #[.int .i64 top, .slice pu xs.length cu] 69))
  have hA := below_alloc1 x1 (.cells #[.int .i64 top, .slice pu xs.length cu] 69)
  have GQ := hid (show w.heap.size ≤ x1.heap.size from G.out.size)
  have LVR := hid (var_lt VR.out)
  have LOOL := hid (fun b e => (OL.out.lt b e).2)
  replace S := hid (S.out.later hA)
  replace OL := hid (OL.out.below hA)
  replace VR := hid (var_below hA VR.out)
  replace G := hid (grown_trans G.out (grown_of_below hA (some g)))
  clear hA
  obtain ⟨y0, y1, -, -⟩ := var2_facts VW.out
  go_wp2_with fail
  clear y0 y1
  generalize x1.alloc (.cells #[.int .i64 top, .slice pu xs.length cu] 69) = x2 at *
  obtain ⟨gw, hg⟩ : ∃ g, g = x1.heap.size := ⟨_, rfl⟩
  rw [← hg] at VW GQ LVR LOOL ⊢
  have NVW := hid (show gw ≠ g by have := GQ.out; have := GV.out; omega)
  have BVW := GQ
  clear hg GQ
  have GW := hid (show gr < gw from LVR.out)
  have AW := hid (show ∀ b, (Value.slice pu xs.length cu).ownBlock = some b → b ≠ gw from fun b e => by have := LOOL.out b e; omega)
  clear LVR LOOL
  refine (next w0 x2 g v l _ 12 S.out (by omega) (by omega) hl).mono ?_
  rintro e x3 ⟨r, rfl, hr, hS, hG⟩
  replace S := hid hS
  replace OL := hid (OL.out.keepGz hG GV.out)
  replace VR := hid (var_grown hG VR.out (fun e => by have := Option.some.inj e; have := NVR.out; omega))
  replace VW := hid (var_grown hG VW.out (fun e => by have := Option.some.inj e; have := NVW.out; omega))
  replace G := hid (grown_trans G.out hG)
  clear hS hG
  clear hr
  by_cases r0 : r = 0
  · subst r0
    have VL := hid (show Lst (x3.alloc (.cells #[.int .i64 (-2), .int .i64 (-1), .int .i64 7, .int .i64 1000000000, .int .i64 1000000001] 2)) x3.heap.size [-2, -1, 7, 1000000000, 1000000001] from heap_alloc_new x3 (.cells #[.int .i64 (-2), .int .i64 (-1), .int .i64 7, .int .i64 1000000000, .int .i64 1000000001] 2))
    have hA := below_alloc1 x3 (.cells #[.int .i64 (-2), .int .i64 (-1), .int .i64 7, .int .i64 1000000000, .int .i64 1000000001] 2)
    have NG := hid (show x3.heap.size ≠ g by have := var_lt S.out.cells; omega)
    replace S := hid (S.out.later hA)
    replace OL := hid (OL.out.below hA)
    replace VR := hid (var_below hA VR.out)
    replace VW := hid (var_below hA VW.out)
    replace G := hid (grown_trans G.out (grown_of_below hA (some g)))
    clear hA
    go_wp2_with fail
    refine (pick' w0 _ g x3.heap.size 5 v l _ [-2, -1, 7, 1000000000, 1000000001] S.out (by omega) hl VL.out NG.out rfl (by omega) (by omega)).mono ?_
    rintro e x4 ⟨y, -, rfl, hS, hG⟩
    replace S := hid hS
    replace OL := hid (OL.out.keepGz hG GV.out)
    replace VR := hid (var_grown hG VR.out (fun e => by have := Option.some.inj e; have := NVR.out; omega))
    replace VW := hid (var_grown hG VW.out (fun e => by have := Option.some.inj e; have := NVW.out; omega))
    replace G := hid (grown_trans G.out hG)
    clear hS hG
    clear VL NG
    obtain ⟨y0, y1, f0, f1⟩ := var2_facts VW.out
    go_upto_region 9 with fail
    clear y0 y1 f0 f1
    have e1 := heap_setCell_same x4 gw 0 _ _ (.int .i64 y) VW.out
    have VY := hid (show (x4.setCell ⟨gw, 0, none⟩ (.int .i64 y)).heap[gw]? = some (.cells #[.int .i64 y, .slice pu xs.length cu] 69) by simpa using e1)
    replace OL := hid (OL.out.setNz (g := gw) (i := 0) (x := .int .i64 y) AW.out)
    replace VR := hid (set1_other (i := 0) (x := .int .i64 y) (show gr ≠ gw by have := GW.out; omega) VR.out)
    replace S := hid (src_set (i := 0) (V := gw) S.out (fun e => NVW.out e.symm) (by have := BVW.out; have := NV.out; omega) (.int .i64 y))
    replace G := hid (grown_set (i := 0) (V := gw) G.out BVW.out (.int .i64 y))
    clear VW e1
    have VW := VY
    clear VY
    generalize x4.setCell ⟨gw, 0, none⟩ (.int .i64 y) = x5 at *
    obtain ⟨y0, y1, -, -⟩ := var2_facts VW.out
    obtain ⟨u0, u1, z0, z1⟩ := var2_facts VR.out
    have V2 := hid (var2_set (x' := .int .i64 y) (y' := .slice pu xs.length cu) VR.out)
    have O2 := hid ((OL.out.setNz (g := gr) (i := 0) (x := .int .i64 y) AR.out).setNz (g := gr) (i := 1) (x := .slice pu xs.length cu) AR.out)
    have S2 := hid (src_set (i := 1) (V := gr) (src_set (i := 0) (V := gr) S.out (fun e => NVR.out e.symm) (by have := GR.out; have := NV.out; omega) (.int .i64 y)) (fun e => NVR.out e.symm) (by have := GR.out; have := NV.out; omega) (.slice pu xs.length cu))
    have G2 := hid (grown_set (i := 1) (V := gr) (grown_set (i := 0) (V := gr) G.out (by have := GR.out; omega) (.int .i64 y)) (by have := GR.out; omega) (.slice pu xs.length cu))
    clear OL S G
    go_wp2
    try simp only [Exit.inBlock, Exit.then]
    exact bodyPost_ret (v := .agg #[.int .i64 y, .slice pu xs.length cu]) (results_cell_row rfl _ _ gr 69 _ _ _ rfl V2.out Try.underlying69 rfl (by kernel_rfl)) rfl ⟨y, .slice pu xs.length cu, _, _, rfl, O2.out, ⟨WF.out.1, by have := WF.out.2; omega⟩, by omega, S2.out, G2.out⟩
  by_cases r1 : r = 1
  · subst r1
    clear r0
    have WT := hid (top_succ RG.out)
    apply split8 (F := fun (xe : World) (zs : List Int) (p5 : Option Addr) (c5 gl gy : Nat) (y : Int) => (WfZ zs ∧ zs.length ≤ 20) ∧ xe.heap[gw]? = some (.cells #[.int .i64 top, .slice p5 zs.length c5] 69) ∧ OwZ xe w.heap.size (.slice p5 zs.length c5) zs ∧ (∀ b, (Value.slice p5 zs.length c5).ownBlock = some b → b ≠ gr) ∧ xe.heap[gr]? = some (.cells #[.int .i64 0, .slice none 0 0] 69) ∧ (Src w0 xe g v l (t' + 1 + 1)) ∧ w.grownBy xe (some g))
    case main =>
      intro leaf
      go_wp2
      obtain ⟨y0, y1, f0, f1⟩ := var2_facts VW.out
      refine wp_region_held_drew (S := fun w' => w'.cell? ⟨gw, 0, none⟩ = some (.int .i64 top)) (by kernel_rfl) y0 (fun hH => ?_)
      have VWd := hid (show x3.drew.heap[gw]? = some (.cells #[.int .i64 top, .slice pu xs.length cu] 69) from VW.out)
      have VRd := hid (show x3.drew.heap[gr]? = some (.cells #[.int .i64 0, .slice none 0 0] 69) from VR.out)
      have OLd := hid (show OwZ x3.drew w.heap.size _ xs from OL.out.drewz)
      have Sd := hid (S.out.drewN 1)
      have Gd := hid (grown_drewN G.out 1)
      clear y0 y1 f0 f1
      change Hid (Src w0 x3.drew g v l _) at Sd
      change Hid (w.grownBy x3.drew (some g)) at Gd
      generalize x3.drew = x at *
      have VW := VWd
      have VR := VRd
      have OL := OLd
      have S := Sd
      have G := Gd
      refine wpAnyH_take (i := 0) (v := .pointer (some ⟨gw, 1, none⟩)) (by simp only [List.getElem?_toArray, List.getElem?_cons_zero]; rfl) (by kernel_rfl) (by kernel_rfl) (by kernel_rfl) (by intro _ _ _ h; exact h) (Or.inl ⟨by rfl, fun w hS => by go_simp⟩) hH ?_
      simp only [Act.put, List.setIfInBounds_toArray, List.set_cons_zero, List.set_cons_succ]
      refine wpAnyH_take (i := 2) (v := .pointer (some ⟨g, 0, none⟩)) (by simp only [List.getElem?_toArray, List.getElem?_cons_succ, List.getElem?_cons_zero]; rfl) (by kernel_rfl) (by kernel_rfl) (by kernel_rfl) (by intro _ _ _ h; exact h) (Or.inl ⟨by rfl, fun w hS => by go_simp⟩) hH ?_
      simp only [Act.put, List.setIfInBounds_toArray, List.set_cons_zero, List.set_cons_succ]
      refine wpAnyH_take (i := 3) (v := .pointer (some ⟨gw, 0, none⟩)) (by simp only [List.getElem?_toArray, List.getElem?_cons_succ, List.getElem?_cons_zero]; rfl) (by kernel_rfl) (by kernel_rfl) (by kernel_rfl) (by intro _ _ _ h; exact h) (Or.inl ⟨by rfl, fun w hS => by go_simp⟩) hH ?_
      simp only [Act.put, List.setIfInBounds_toArray, List.set_cons_zero, List.set_cons_succ]
      refine wpAnyH_take (i := 4) (v := .int .i64 top) (by simp only [List.getElem?_toArray, List.getElem?_cons_succ, List.getElem?_cons_zero]; rfl) (by kernel_rfl) (by kernel_rfl) (by kernel_rfl) (by intro _ _ _ h; exact h) (Or.inl ⟨by rfl, fun w hS => by (have y0 := hS; go_simp)⟩) hH ?_
      simp only [Act.put, List.setIfInBounds_toArray, List.set_cons_zero, List.set_cons_succ]
      refine wpAnyH_take (i := 5) (v := .pointer (some ⟨gw, 0, none⟩)) (by simp only [List.getElem?_toArray, List.getElem?_cons_succ, List.getElem?_cons_zero]; rfl) (by kernel_rfl) (by kernel_rfl) (by kernel_rfl) (by intro _ _ _ h; exact h) (Or.inl ⟨by rfl, fun w hS => by go_simp⟩) hH ?_
      simp only [Act.put, List.setIfInBounds_toArray, List.set_cons_zero, List.set_cons_succ]
      refine wpAnyH_take (i := 6) (v := .int .i64 top) (by simp only [List.getElem?_toArray, List.getElem?_cons_succ, List.getElem?_cons_zero]; rfl) (by kernel_rfl) (by kernel_rfl) (by kernel_rfl) (by intro _ _ _ h; exact h) (Or.inl ⟨by rfl, fun w hS => by (have y0 := hS; go_simp)⟩) hH ?_
      simp only [Act.put, List.setIfInBounds_toArray, List.set_cons_zero, List.set_cons_succ]
      refine wpAnyH_take (i := 7) (v := .int .i64 (top + 1)) (by simp only [List.getElem?_toArray, List.getElem?_cons_succ, List.getElem?_cons_zero]; rfl) (by kernel_rfl) (by kernel_rfl) (by kernel_rfl) (by intro _ _ _ h; exact h) (Or.inl ⟨by rfl, fun w hS => by (go_simp; exact WT.out)⟩) hH ?_
      simp only [Act.put, List.setIfInBounds_toArray, List.set_cons_zero, List.set_cons_succ]
      refine wpAnyH_ready (rs := [1, 8]) (by kernel_rfl) (by simp) ?_
      refine AllReadyH.cons (by simp only [List.getElem?_toArray, List.getElem?_cons_succ, List.getElem?_cons_zero]; rfl) (fun K hK => ?_) ?_
      · obtain ⟨q0, q1, -, -⟩ := var2_facts VW.out
        go_simp
        refine hK.out _ _ hH (fun hH => ?_)
        clear hK K q0 q1
        refine wpAnyH_ready (rs := [8]) (by kernel_rfl) (by simp) ?_
        refine AllReadyH.cons (by simp only [List.getElem?_toArray, List.getElem?_cons_succ, List.getElem?_cons_zero]; rfl) (fun K hK => ?_) AllReadyH.nil
        go_simp
        have VL := hid (show Lst (x.alloc (.cells #[.int .i64 0, .int .i64 (-1), .int .i64 top, .int .i64 (top + 1)] 2)) x.heap.size [0, -1, top, top + 1] from heap_alloc_new x (.cells #[.int .i64 0, .int .i64 (-1), .int .i64 top, .int .i64 (top + 1)] 2))
        have hA := below_alloc1 x (.cells #[.int .i64 0, .int .i64 (-1), .int .i64 top, .int .i64 (top + 1)] 2)
        have NG := hid (show x.heap.size ≠ g by have := var_lt S.out.cells; omega)
        replace S := hid (S.out.later hA)
        replace OL := hid (OL.out.below hA)
        replace VW := hid (var_below hA VW.out)
        replace VR := hid (var_below hA VR.out)
        replace G := hid (grown_trans G.out (grown_of_below hA (some g)))
        refine hK.out _ _ (cell_kept hA hH) (fun hH => ?_)
        clear hK K hA
        generalize x.alloc (.cells #[.int .i64 0, .int .i64 (-1), .int .i64 top, .int .i64 (top + 1)] 2) = xa at *
        obtain ⟨gl, hgl⟩ : ∃ g, g = x.heap.size := ⟨_, rfl⟩
        rw [← hgl] at VL NG ⊢
        clear hgl
        refine wpAnyH_ready (rs := [9]) (by kernel_rfl) (by simp) ?_
        refine AllReadyH.cons (by simp only [List.getElem?_toArray, List.getElem?_cons_succ, List.getElem?_cons_zero]; rfl) (fun K hK => ?_) AllReadyH.nil
        go_simp
        refine (pick' w0 _ g gl 4 v l _ [0, -1, top, top + 1] S.out (by omega) hl VL.out NG.out rfl (by omega) (by omega)).mono ?_
        rintro e xb ⟨y, hy, rfl, hS, hG⟩
        have hM := (show xb.cell? ⟨gw, 0, none⟩ = some (.int .i64 top) from (var2_facts (var_grown hG VW.out (fun e => by have := Option.some.inj e; have := NVW.out; omega))).1)
        replace S := hid hS
        replace OL := hid (OL.out.keepGz hG GV.out)
        replace VW := hid (var_grown hG VW.out (fun e => by have := Option.some.inj e; have := NVW.out; omega))
        replace VR := hid (var_grown hG VR.out (fun e => by have := Option.some.inj e; have := NVR.out; omega))
        replace G := hid (grown_trans G.out hG)
        have HY := hid hy
        refine hK.out _ _ hM (fun hH => ?_)
        clear hK K hS hG VL NG hy hM
        refine wpAnyH_ready (rs := [10]) (by kernel_rfl) (by simp) ?_
        refine AllReadyH.cons (by simp only [List.getElem?_toArray, List.getElem?_cons_succ, List.getElem?_cons_zero]; rfl) (fun K hK => ?_) AllReadyH.nil
        go_simp
        have RN := hid (rdZ_one xb y 2)
        have hA := below_alloc1 xb (.cells #[.int .i64 y] 2)
        replace S := hid (S.out.later hA)
        replace OL := hid (OL.out.below hA)
        replace VW := hid (var_below hA VW.out)
        replace VR := hid (var_below hA VR.out)
        replace G := hid (grown_trans G.out (grown_of_below hA (some g)))
        refine hK.out _ _ (cell_kept hA hH) (fun hH => ?_)
        clear hK K hA
        generalize xb.alloc (.cells #[.int .i64 y] 2) = xc at *
        obtain ⟨gy, hgy⟩ : ∃ g, g = xb.heap.size := ⟨_, rfl⟩
        rw [← hgy] at RN ⊢
        clear hgy
        refine wpAnyH_ready (rs := [11]) (by kernel_rfl) (by simp) ?_
        refine AllReadyH.cons (by simp only [List.getElem?_toArray, List.getElem?_cons_succ, List.getElem?_cons_zero]; rfl) (fun K hK => ?_) AllReadyH.nil
        refine step_appZ (by rfl) _ _ (by rfl) _ _ xs [y] w.heap.size (by rfl) (by rfl) OL.out RN.out (by have := WF.out.2; simp; omega) G.out.size ?_
        intro v5 xd hO hG
        obtain ⟨zs, hz⟩ : ∃ z, z = xs ++ [y] := ⟨_, rfl⟩
        rw [← hz] at hO
        have WY := hid (show WfZ zs ∧ zs.length ≤ 20 by subst hz; exact ⟨wf_snoc WF.out.1 RG.out HY.out, by have := WF.out.2; simp; omega⟩)
        clear hz
        obtain ⟨p5, c5, rfl, -, -, -⟩ := hO.rd.parts
        have hM := (show xd.cell? ⟨gw, 0, none⟩ = some (.int .i64 top) from (var2_facts (var_grown hG VW.out (fun e => AW.out _ e.symm rfl))).1)
        replace S := hid (S.out.grown hG (fun e => by have := (OL.out.lt g e.symm).1; have := GV.out; omega) (fun b e => by have := (OL.out.lt b e).1; have := NV.out; omega))
        replace VW := hid (var_grown hG VW.out (fun e => AW.out _ e.symm rfl))
        replace VR := hid (var_grown hG VR.out (fun e => AR.out _ e.symm rfl))
        replace G := hid (grownNz G.out hG (fun b e => (OL.out.lt b e).1))
        replace OL := hid hO
        have A5 := hid (And.intro (own_tag hO VW.out) (own_tag hO VR.out))
        refine hK.out _ _ hM (fun hH => ?_)
        clear hK K hM hO hG RN
        refine wpAnyH_take (i := 12) (v := .pointer (some ⟨gw, 1, none⟩)) (by simp only [List.getElem?_toArray, List.getElem?_cons_succ, List.getElem?_cons_zero]; rfl) (by kernel_rfl) (by kernel_rfl) (by kernel_rfl) (by intro _ _ _ h; exact h) (Or.inl ⟨by rfl, fun w hS => by go_simp⟩) hH ?_
        simp only [Act.put, List.setIfInBounds_toArray, List.set_cons_zero, List.set_cons_succ]
        refine wpAnyH_ready (rs := [13]) (by kernel_rfl) (by simp) ?_
        refine AllReadyH.cons (by simp only [List.getElem?_toArray, List.getElem?_cons_succ, List.getElem?_cons_zero]; rfl) (fun K hK => ?_) AllReadyH.nil
        obtain ⟨q0, q1, z0, z1⟩ := var2_facts VW.out
        go_simp
        have VY := hid (show (xd.setCell ⟨gw, 1, none⟩ (.slice p5 zs.length c5)).heap[gw]? = some (.cells #[.int .i64 top, .slice p5 zs.length c5] 69) by simpa using heap_setCell_same xd gw 1 _ _ (.slice p5 zs.length c5) VW.out)
        have O7 := hid (OL.out.setNz (g := gw) (i := 1) (x := .slice p5 zs.length c5) A5.out.1)
        have R7 := hid (set1_other (i := 1) (x := .slice p5 zs.length c5) (show gr ≠ gw by have := GW.out; omega) VR.out)
        have S7 := hid (src_set (i := 1) (V := gw) S.out (fun e => NVW.out e.symm) (by have := BVW.out; have := NV.out; omega) (.slice p5 zs.length c5))
        have G7 := hid (grown_set (i := 1) (V := gw) G.out BVW.out (.slice p5 zs.length c5))
        refine hK.out _ _ (var2_facts VY.out).1 (fun hH => ?_)
        clear hK K q0 q1 z0 z1 OL S G VW VR
        generalize xd.setCell ⟨gw, 1, none⟩ (.slice p5 zs.length c5) = xe at *
        refine wpAnyH_done (by kernel_rfl) ?_ _
        exact leaf xe zs p5 c5 gl gy y ⟨WY.out, VY.out, O7.out, A5.out.2, R7.out, S7.out, G7.out⟩
      refine AllReadyH.cons (by simp only [List.getElem?_toArray, List.getElem?_cons_succ, List.getElem?_cons_zero]; rfl) (fun K hK => ?_) ?_
      · go_simp
        have VL := hid (show Lst (x.alloc (.cells #[.int .i64 0, .int .i64 (-1), .int .i64 top, .int .i64 (top + 1)] 2)) x.heap.size [0, -1, top, top + 1] from heap_alloc_new x (.cells #[.int .i64 0, .int .i64 (-1), .int .i64 top, .int .i64 (top + 1)] 2))
        have hA := below_alloc1 x (.cells #[.int .i64 0, .int .i64 (-1), .int .i64 top, .int .i64 (top + 1)] 2)
        have NG := hid (show x.heap.size ≠ g by have := var_lt S.out.cells; omega)
        replace S := hid (S.out.later hA)
        replace OL := hid (OL.out.below hA)
        replace VW := hid (var_below hA VW.out)
        replace VR := hid (var_below hA VR.out)
        replace G := hid (grown_trans G.out (grown_of_below hA (some g)))
        refine hK.out _ _ (cell_kept hA hH) (fun hH => ?_)
        clear hK K hA
        generalize x.alloc (.cells #[.int .i64 0, .int .i64 (-1), .int .i64 top, .int .i64 (top + 1)] 2) = xa at *
        obtain ⟨gl, hgl⟩ : ∃ g, g = x.heap.size := ⟨_, rfl⟩
        rw [← hgl] at VL NG ⊢
        clear hgl
        refine wpAnyH_ready (rs := [1, 9]) (by kernel_rfl) (by simp) ?_
        refine AllReadyH.cons (by simp only [List.getElem?_toArray, List.getElem?_cons_succ, List.getElem?_cons_zero]; rfl) (fun K hK => ?_) ?_
        · obtain ⟨q0, q1, -, -⟩ := var2_facts VW.out
          go_simp
          refine hK.out _ _ hH (fun hH => ?_)
          clear hK K q0 q1
          refine wpAnyH_ready (rs := [9]) (by kernel_rfl) (by simp) ?_
          refine AllReadyH.cons (by simp only [List.getElem?_toArray, List.getElem?_cons_succ, List.getElem?_cons_zero]; rfl) (fun K hK => ?_) AllReadyH.nil
          go_simp
          refine (pick' w0 _ g gl 4 v l _ [0, -1, top, top + 1] S.out (by omega) hl VL.out NG.out rfl (by omega) (by omega)).mono ?_
          rintro e xb ⟨y, hy, rfl, hS, hG⟩
          have hM := (show xb.cell? ⟨gw, 0, none⟩ = some (.int .i64 top) from (var2_facts (var_grown hG VW.out (fun e => by have := Option.some.inj e; have := NVW.out; omega))).1)
          replace S := hid hS
          replace OL := hid (OL.out.keepGz hG GV.out)
          replace VW := hid (var_grown hG VW.out (fun e => by have := Option.some.inj e; have := NVW.out; omega))
          replace VR := hid (var_grown hG VR.out (fun e => by have := Option.some.inj e; have := NVR.out; omega))
          replace G := hid (grown_trans G.out hG)
          have HY := hid hy
          refine hK.out _ _ hM (fun hH => ?_)
          clear hK K hS hG VL NG hy hM
          refine wpAnyH_ready (rs := [10]) (by kernel_rfl) (by simp) ?_
          refine AllReadyH.cons (by simp only [List.getElem?_toArray, List.getElem?_cons_succ, List.getElem?_cons_zero]; rfl) (fun K hK => ?_) AllReadyH.nil
          go_simp
          have RN := hid (rdZ_one xb y 2)
          have hA := below_alloc1 xb (.cells #[.int .i64 y] 2)
          replace S := hid (S.out.later hA)
          replace OL := hid (OL.out.below hA)
          replace VW := hid (var_below hA VW.out)
          replace VR := hid (var_below hA VR.out)
          replace G := hid (grown_trans G.out (grown_of_below hA (some g)))
          refine hK.out _ _ (cell_kept hA hH) (fun hH => ?_)
          clear hK K hA
          generalize xb.alloc (.cells #[.int .i64 y] 2) = xc at *
          obtain ⟨gy, hgy⟩ : ∃ g, g = xb.heap.size := ⟨_, rfl⟩
          rw [← hgy] at RN ⊢
          clear hgy
          refine wpAnyH_ready (rs := [11]) (by kernel_rfl) (by simp) ?_
          refine AllReadyH.cons (by simp only [List.getElem?_toArray, List.getElem?_cons_succ, List.getElem?_cons_zero]; rfl) (fun K hK => ?_) AllReadyH.nil
          refine step_appZ (by rfl) _ _ (by rfl) _ _ xs [y] w.heap.size (by rfl) (by rfl) OL.out RN.out (by have := WF.out.2; simp; omega) G.out.size ?_
          intro v5 xd hO hG
          obtain ⟨zs, hz⟩ : ∃ z, z = xs ++ [y] := ⟨_, rfl⟩
          rw [← hz] at hO
          have WY := hid (show WfZ zs ∧ zs.length ≤ 20 by subst hz; exact ⟨wf_snoc WF.out.1 RG.out HY.out, by have := WF.out.2; simp; omega⟩)
          clear hz
          obtain ⟨p5, c5, rfl, -, -, -⟩ := hO.rd.parts
          have hM := (show xd.cell? ⟨gw, 0, none⟩ = some (.int .i64 top) from (var2_facts (var_grown hG VW.out (fun e => AW.out _ e.symm rfl))).1)
          replace S := hid (S.out.grown hG (fun e => by have := (OL.out.lt g e.symm).1; have := GV.out; omega) (fun b e => by have := (OL.out.lt b e).1; have := NV.out; omega))
          replace VW := hid (var_grown hG VW.out (fun e => AW.out _ e.symm rfl))
          replace VR := hid (var_grown hG VR.out (fun e => AR.out _ e.symm rfl))
          replace G := hid (grownNz G.out hG (fun b e => (OL.out.lt b e).1))
          replace OL := hid hO
          have A5 := hid (And.intro (own_tag hO VW.out) (own_tag hO VR.out))
          refine hK.out _ _ hM (fun hH => ?_)
          clear hK K hM hO hG RN
          refine wpAnyH_take (i := 12) (v := .pointer (some ⟨gw, 1, none⟩)) (by simp only [List.getElem?_toArray, List.getElem?_cons_succ, List.getElem?_cons_zero]; rfl) (by kernel_rfl) (by kernel_rfl) (by kernel_rfl) (by intro _ _ _ h; exact h) (Or.inl ⟨by rfl, fun w hS => by go_simp⟩) hH ?_
          simp only [Act.put, List.setIfInBounds_toArray, List.set_cons_zero, List.set_cons_succ]
          refine wpAnyH_ready (rs := [13]) (by kernel_rfl) (by simp) ?_
          refine AllReadyH.cons (by simp only [List.getElem?_toArray, List.getElem?_cons_succ, List.getElem?_cons_zero]; rfl) (fun K hK => ?_) AllReadyH.nil
          obtain ⟨q0, q1, z0, z1⟩ := var2_facts VW.out
          go_simp
          have VY := hid (show (xd.setCell ⟨gw, 1, none⟩ (.slice p5 zs.length c5)).heap[gw]? = some (.cells #[.int .i64 top, .slice p5 zs.length c5] 69) by simpa using heap_setCell_same xd gw 1 _ _ (.slice p5 zs.length c5) VW.out)
          have O7 := hid (OL.out.setNz (g := gw) (i := 1) (x := .slice p5 zs.length c5) A5.out.1)
          have R7 := hid (set1_other (i := 1) (x := .slice p5 zs.length c5) (show gr ≠ gw by have := GW.out; omega) VR.out)
          have S7 := hid (src_set (i := 1) (V := gw) S.out (fun e => NVW.out e.symm) (by have := BVW.out; have := NV.out; omega) (.slice p5 zs.length c5))
          have G7 := hid (grown_set (i := 1) (V := gw) G.out BVW.out (.slice p5 zs.length c5))
          refine hK.out _ _ (var2_facts VY.out).1 (fun hH => ?_)
          clear hK K q0 q1 z0 z1 OL S G VW VR
          generalize xd.setCell ⟨gw, 1, none⟩ (.slice p5 zs.length c5) = xe at *
          refine wpAnyH_done (by kernel_rfl) ?_ _
          exact leaf xe zs p5 c5 gl gy y ⟨WY.out, VY.out, O7.out, A5.out.2, R7.out, S7.out, G7.out⟩
        refine AllReadyH.cons (by simp only [List.getElem?_toArray, List.getElem?_cons_succ, List.getElem?_cons_zero]; rfl) (fun K hK => ?_) ?_
        · go_simp
          refine (pick' w0 _ g gl 4 v l _ [0, -1, top, top + 1] S.out (by omega) hl VL.out NG.out rfl (by omega) (by omega)).mono ?_
          rintro e xb ⟨y, hy, rfl, hS, hG⟩
          have hM := (show xb.cell? ⟨gw, 0, none⟩ = some (.int .i64 top) from (var2_facts (var_grown hG VW.out (fun e => by have := Option.some.inj e; have := NVW.out; omega))).1)
          replace S := hid hS
          replace OL := hid (OL.out.keepGz hG GV.out)
          replace VW := hid (var_grown hG VW.out (fun e => by have := Option.some.inj e; have := NVW.out; omega))
          replace VR := hid (var_grown hG VR.out (fun e => by have := Option.some.inj e; have := NVR.out; omega))
          replace G := hid (grown_trans G.out hG)
          have HY := hid hy
          refine hK.out _ _ hM (fun hH => ?_)
          clear hK K hS hG VL NG hy hM
          refine wpAnyH_ready (rs := [1, 10]) (by kernel_rfl) (by simp) ?_
          refine AllReadyH.cons (by simp only [List.getElem?_toArray, List.getElem?_cons_succ, List.getElem?_cons_zero]; rfl) (fun K hK => ?_) ?_
          · obtain ⟨q0, q1, -, -⟩ := var2_facts VW.out
            go_simp
            refine hK.out _ _ hH (fun hH => ?_)
            clear hK K q0 q1
            refine wpAnyH_ready (rs := [10]) (by kernel_rfl) (by simp) ?_
            refine AllReadyH.cons (by simp only [List.getElem?_toArray, List.getElem?_cons_succ, List.getElem?_cons_zero]; rfl) (fun K hK => ?_) AllReadyH.nil
            go_simp
            have RN := hid (rdZ_one xb y 2)
            have hA := below_alloc1 xb (.cells #[.int .i64 y] 2)
            replace S := hid (S.out.later hA)
            replace OL := hid (OL.out.below hA)
            replace VW := hid (var_below hA VW.out)
            replace VR := hid (var_below hA VR.out)
            replace G := hid (grown_trans G.out (grown_of_below hA (some g)))
            refine hK.out _ _ (cell_kept hA hH) (fun hH => ?_)
            clear hK K hA
            generalize xb.alloc (.cells #[.int .i64 y] 2) = xc at *
            obtain ⟨gy, hgy⟩ : ∃ g, g = xb.heap.size := ⟨_, rfl⟩
            rw [← hgy] at RN ⊢
            clear hgy
            refine wpAnyH_ready (rs := [11]) (by kernel_rfl) (by simp) ?_
            refine AllReadyH.cons (by simp only [List.getElem?_toArray, List.getElem?_cons_succ, List.getElem?_cons_zero]; rfl) (fun K hK => ?_) AllReadyH.nil
            refine step_appZ (by rfl) _ _ (by rfl) _ _ xs [y] w.heap.size (by rfl) (by rfl) OL.out RN.out (by have := WF.out.2; simp; omega) G.out.size ?_
            intro v5 xd hO hG
            obtain ⟨zs, hz⟩ : ∃ z, z = xs ++ [y] := ⟨_, rfl⟩
            rw [← hz] at hO
            have WY := hid (show WfZ zs ∧ zs.length ≤ 20 by subst hz; exact ⟨wf_snoc WF.out.1 RG.out HY.out, by have := WF.out.2; simp; omega⟩)
            clear hz
            obtain ⟨p5, c5, rfl, -, -, -⟩ := hO.rd.parts
            have hM := (show xd.cell? ⟨gw, 0, none⟩ = some (.int .i64 top) from (var2_facts (var_grown hG VW.out (fun e => AW.out _ e.symm rfl))).1)
            replace S := hid (S.out.grown hG (fun e => by have := (OL.out.lt g e.symm).1; have := GV.out; omega) (fun b e => by have := (OL.out.lt b e).1; have := NV.out; omega))
            replace VW := hid (var_grown hG VW.out (fun e => AW.out _ e.symm rfl))
            replace VR := hid (var_grown hG VR.out (fun e => AR.out _ e.symm rfl))
            replace G := hid (grownNz G.out hG (fun b e => (OL.out.lt b e).1))
            replace OL := hid hO
            have A5 := hid (And.intro (own_tag hO VW.out) (own_tag hO VR.out))
            refine hK.out _ _ hM (fun hH => ?_)
            clear hK K hM hO hG RN
            refine wpAnyH_take (i := 12) (v := .pointer (some ⟨gw, 1, none⟩)) (by simp only [List.getElem?_toArray, List.getElem?_cons_succ, List.getElem?_cons_zero]; rfl) (by kernel_rfl) (by kernel_rfl) (by kernel_rfl) (by intro _ _ _ h; exact h) (Or.inl ⟨by rfl, fun w hS => by go_simp⟩) hH ?_
            simp only [Act.put, List.setIfInBounds_toArray, List.set_cons_zero, List.set_cons_succ]
            refine wpAnyH_ready (rs := [13]) (by kernel_rfl) (by simp) ?_
            refine AllReadyH.cons (by simp only [List.getElem?_toArray, List.getElem?_cons_succ, List.getElem?_cons_zero]; rfl) (fun K hK => ?_) AllReadyH.nil
            obtain ⟨q0, q1, z0, z1⟩ := var2_facts VW.out
            go_simp
            have VY := hid (show (xd.setCell ⟨gw, 1, none⟩ (.slice p5 zs.length c5)).heap[gw]? = some (.cells #[.int .i64 top, .slice p5 zs.length c5] 69) by simpa using heap_setCell_same xd gw 1 _ _ (.slice p5 zs.length c5) VW.out)
            have O7 := hid (OL.out.setNz (g := gw) (i := 1) (x := .slice p5 zs.length c5) A5.out.1)
            have R7 := hid (set1_other (i := 1) (x := .slice p5 zs.length c5) (show gr ≠ gw by have := GW.out; omega) VR.out)
            have S7 := hid (src_set (i := 1) (V := gw) S.out (fun e => NVW.out e.symm) (by have := BVW.out; have := NV.out; omega) (.slice p5 zs.length c5))
            have G7 := hid (grown_set (i := 1) (V := gw) G.out BVW.out (.slice p5 zs.length c5))
            refine hK.out _ _ (var2_facts VY.out).1 (fun hH => ?_)
            clear hK K q0 q1 z0 z1 OL S G VW VR
            generalize xd.setCell ⟨gw, 1, none⟩ (.slice p5 zs.length c5) = xe at *
            refine wpAnyH_done (by kernel_rfl) ?_ _
            exact leaf xe zs p5 c5 gl gy y ⟨WY.out, VY.out, O7.out, A5.out.2, R7.out, S7.out, G7.out⟩
          refine AllReadyH.cons (by simp only [List.getElem?_toArray, List.getElem?_cons_succ, List.getElem?_cons_zero]; rfl) (fun K hK => ?_) ?_
          · go_simp
            have RN := hid (rdZ_one xb y 2)
            have hA := below_alloc1 xb (.cells #[.int .i64 y] 2)
            replace S := hid (S.out.later hA)
            replace OL := hid (OL.out.below hA)
            replace VW := hid (var_below hA VW.out)
            replace VR := hid (var_below hA VR.out)
            replace G := hid (grown_trans G.out (grown_of_below hA (some g)))
            refine hK.out _ _ (cell_kept hA hH) (fun hH => ?_)
            clear hK K hA
            generalize xb.alloc (.cells #[.int .i64 y] 2) = xc at *
            obtain ⟨gy, hgy⟩ : ∃ g, g = xb.heap.size := ⟨_, rfl⟩
            rw [← hgy] at RN ⊢
            clear hgy
            refine wpAnyH_ready (rs := [1]) (by kernel_rfl) (by simp) ?_
            refine AllReadyH.cons (by simp only [List.getElem?_toArray, List.getElem?_cons_succ, List.getElem?_cons_zero]; rfl) (fun K hK => ?_) AllReadyH.nil
            obtain ⟨q0, q1, -, -⟩ := var2_facts VW.out
            go_simp
            refine hK.out _ _ hH (fun hH => ?_)
            clear hK K q0 q1
            refine wpAnyH_ready (rs := [11]) (by kernel_rfl) (by simp) ?_
            refine AllReadyH.cons (by simp only [List.getElem?_toArray, List.getElem?_cons_succ, List.getElem?_cons_zero]; rfl) (fun K hK => ?_) AllReadyH.nil
            refine step_appZ (by rfl) _ _ (by rfl) _ _ xs [y] w.heap.size (by rfl) (by rfl) OL.out RN.out (by have := WF.out.2; simp; omega) G.out.size ?_
            intro v5 xd hO hG
            obtain ⟨zs, hz⟩ : ∃ z, z = xs ++ [y] := ⟨_, rfl⟩
            rw [← hz] at hO
            have WY := hid (show WfZ zs ∧ zs.length ≤ 20 by subst hz; exact ⟨wf_snoc WF.out.1 RG.out HY.out, by have := WF.out.2; simp; omega⟩)
            clear hz
            obtain ⟨p5, c5, rfl, -, -, -⟩ := hO.rd.parts
            have hM := (show xd.cell? ⟨gw, 0, none⟩ = some (.int .i64 top) from (var2_facts (var_grown hG VW.out (fun e => AW.out _ e.symm rfl))).1)
            replace S := hid (S.out.grown hG (fun e => by have := (OL.out.lt g e.symm).1; have := GV.out; omega) (fun b e => by have := (OL.out.lt b e).1; have := NV.out; omega))
            replace VW := hid (var_grown hG VW.out (fun e => AW.out _ e.symm rfl))
            replace VR := hid (var_grown hG VR.out (fun e => AR.out _ e.symm rfl))
            replace G := hid (grownNz G.out hG (fun b e => (OL.out.lt b e).1))
            replace OL := hid hO
            have A5 := hid (And.intro (own_tag hO VW.out) (own_tag hO VR.out))
            refine hK.out _ _ hM (fun hH => ?_)
            clear hK K hM hO hG RN
            refine wpAnyH_take (i := 12) (v := .pointer (some ⟨gw, 1, none⟩)) (by simp only [List.getElem?_toArray, List.getElem?_cons_succ, List.getElem?_cons_zero]; rfl) (by kernel_rfl) (by kernel_rfl) (by kernel_rfl) (by intro _ _ _ h; exact h) (Or.inl ⟨by rfl, fun w hS => by go_simp⟩) hH ?_
            simp only [Act.put, List.setIfInBounds_toArray, List.set_cons_zero, List.set_cons_succ]
            refine wpAnyH_ready (rs := [13]) (by kernel_rfl) (by simp) ?_
            refine AllReadyH.cons (by simp only [List.getElem?_toArray, List.getElem?_cons_succ, List.getElem?_cons_zero]; rfl) (fun K hK => ?_) AllReadyH.nil
            obtain ⟨q0, q1, z0, z1⟩ := var2_facts VW.out
            go_simp
            have VY := hid (show (xd.setCell ⟨gw, 1, none⟩ (.slice p5 zs.length c5)).heap[gw]? = some (.cells #[.int .i64 top, .slice p5 zs.length c5] 69) by simpa using heap_setCell_same xd gw 1 _ _ (.slice p5 zs.length c5) VW.out)
            have O7 := hid (OL.out.setNz (g := gw) (i := 1) (x := .slice p5 zs.length c5) A5.out.1)
            have R7 := hid (set1_other (i := 1) (x := .slice p5 zs.length c5) (show gr ≠ gw by have := GW.out; omega) VR.out)
            have S7 := hid (src_set (i := 1) (V := gw) S.out (fun e => NVW.out e.symm) (by have := BVW.out; have := NV.out; omega) (.slice p5 zs.length c5))
            have G7 := hid (grown_set (i := 1) (V := gw) G.out BVW.out (.slice p5 zs.length c5))
            refine hK.out _ _ (var2_facts VY.out).1 (fun hH => ?_)
            clear hK K q0 q1 z0 z1 OL S G VW VR
            generalize xd.setCell ⟨gw, 1, none⟩ (.slice p5 zs.length c5) = xe at *
            refine wpAnyH_done (by kernel_rfl) ?_ _
            exact leaf xe zs p5 c5 gl gy y ⟨WY.out, VY.out, O7.out, A5.out.2, R7.out, S7.out, G7.out⟩
          exact AllReadyH.nil
        exact AllReadyH.nil
      exact AllReadyH.nil
    case leaf =>
      intro xe zs p5 c5 gl gy y ⟨WY, VY, OY, AY, RY, SY, GY⟩
      have VW := hid VY
      have OL := hid OY
      have AR := hid AY
      have VR := hid RY
      have S := hid SY
      have G := hid GY
      clear VY OY AY RY SY GY
      replace WY := hid WY
      obtain ⟨y0, y1, -, -⟩ := var2_facts VW.out
      obtain ⟨u0, u1, z0, z1⟩ := var2_facts VR.out
      have V2 := hid (var2_set (x' := .int .i64 top) (y' := .slice p5 zs.length c5) VR.out)
      have O2 := hid ((OL.out.setNz (g := gr) (i := 0) (x := .int .i64 top) AR.out).setNz (g := gr) (i := 1) (x := .slice p5 zs.length c5) AR.out)
      have S2 := hid (src_set (i := 1) (V := gr) (src_set (i := 0) (V := gr) S.out (fun e => NVR.out e.symm) (by have := GR.out; have := NV.out; omega) (.int .i64 top)) (fun e => NVR.out e.symm) (by have := GR.out; have := NV.out; omega) (.slice p5 zs.length c5))
      have G2 := hid (grown_set (i := 1) (V := gr) (grown_set (i := 0) (V := gr) G.out (by have := GR.out; omega) (.int .i64 top)) (by have := GR.out; omega) (.slice p5 zs.length c5))
      clear OL S G
      go_wp2
      try simp only [Exit.inBlock, Exit.then]
      exact bodyPost_ret (v := .agg #[.int .i64 top, .slice p5 zs.length c5]) (results_cell_row rfl _ _ gr 69 _ _ _ rfl V2.out Try.underlying69 rfl (by kernel_rfl)) rfl ⟨top, .slice p5 zs.length c5, _, _, rfl, O2.out, WY.out, by omega, S2.out, G2.out⟩
  by_cases r2 : r = 2
  · subst r2
    clear r0 r1
    obtain ⟨y0, y1, f0, f1⟩ := var2_facts VW.out
    go_upto_region 9 with fail
    clear y0 y1 f0 f1
    have e1 := heap_setCell_same x3 gw 1 _ _ (.slice none 0 0) VW.out
    have VY := hid (show (x3.setCell ⟨gw, 1, none⟩ (.slice none 0 0)).heap[gw]? = some (.cells #[.int .i64 top, .slice none 0 0] 69) by simpa using e1)
    replace VR := hid (set1_other (i := 1) (x := .slice none 0 0) (show gr ≠ gw by have := GW.out; omega) VR.out)
    replace S := hid (src_set (i := 1) (V := gw) S.out (fun e => NVW.out e.symm) (by have := BVW.out; have := NV.out; omega) (.slice none 0 0))
    replace G := hid (grown_set (i := 1) (V := gw) G.out BVW.out (.slice none 0 0))
    clear VW e1 OL AR AW
    have VW := VY
    clear VY
    generalize x3.setCell ⟨gw, 1, none⟩ (.slice none 0 0) = x5 at *
    have OL := hid (OwZ.nil x5 w.heap.size)
    have AR := hid (show ∀ b, (Value.slice none 0 0).ownBlock = some b → b ≠ gr from fun b e => by cases e)
    obtain ⟨y0, y1, -, -⟩ := var2_facts VW.out
    obtain ⟨u0, u1, z0, z1⟩ := var2_facts VR.out
    have V2 := hid (var2_set (x' := .int .i64 top) (y' := .slice none 0 0) VR.out)
    have O2 := hid ((OL.out.setNz (g := gr) (i := 0) (x := .int .i64 top) AR.out).setNz (g := gr) (i := 1) (x := .slice none 0 0) AR.out)
    have S2 := hid (src_set (i := 1) (V := gr) (src_set (i := 0) (V := gr) S.out (fun e => NVR.out e.symm) (by have := GR.out; have := NV.out; omega) (.int .i64 top)) (fun e => NVR.out e.symm) (by have := GR.out; have := NV.out; omega) (.slice none 0 0))
    have G2 := hid (grown_set (i := 1) (V := gr) (grown_set (i := 0) (V := gr) G.out (by have := GR.out; omega) (.int .i64 top)) (by have := GR.out; omega) (.slice none 0 0))
    clear OL S G
    go_wp2
    try simp only [Exit.inBlock, Exit.then]
    exact bodyPost_ret (v := .agg #[.int .i64 top, .slice none 0 0]) (results_cell_row rfl _ _ gr 69 _ _ _ rfl V2.out Try.underlying69 rfl (by kernel_rfl)) rfl ⟨top, .slice none 0 0, _, _, rfl, O2.out, ⟨fun x hx => by simp at hx, by simp⟩, by omega, S2.out, G2.out⟩
  have e0 : (r == 0) = false := by simpa using r0
  have e1 : (r == 1) = false := by simpa using r1
  have e2 : (r == 2) = false := by simpa using r2
  clear r0 r1 r2
  obtain ⟨y0, y1, -, -⟩ := var2_facts VW.out
  obtain ⟨u0, u1, z0, z1⟩ := var2_facts VR.out
  have V2 := hid (var2_set (x' := .int .i64 top) (y' := .slice pu xs.length cu) VR.out)
  have O2 := hid ((OL.out.setNz (g := gr) (i := 0) (x := .int .i64 top) AR.out).setNz (g := gr) (i := 1) (x := .slice pu xs.length cu) AR.out)
  have S2 := hid (src_set (i := 1) (V := gr) (src_set (i := 0) (V := gr) S.out (fun e => NVR.out e.symm) (by have := GR.out; have := NV.out; omega) (.int .i64 top)) (fun e => NVR.out e.symm) (by have := GR.out; have := NV.out; omega) (.slice pu xs.length cu))
  have G2 := hid (grown_set (i := 1) (V := gr) (grown_set (i := 0) (V := gr) G.out (by have := GR.out; omega) (.int .i64 top)) (by have := GR.out; omega) (.slice pu xs.length cu))
  clear OL S G
  go_wp2
  try simp only [Exit.inBlock, Exit.then]
  exact bodyPost_ret (v := .agg #[.int .i64 top, .slice pu xs.length cu]) (results_cell_row rfl _ _ gr 69 _ _ _ rfl V2.out Try.underlying69 rfl (by kernel_rfl)) rfl ⟨top, .slice pu xs.length cu, _, _, rfl, O2.out, ⟨WF.out.1, by have := WF.out.2; omega⟩, by omega, S2.out, G2.out⟩
end Go.Proofs.Ytalaolfcdaaaoaa.W
