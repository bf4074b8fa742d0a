/-
  Keys twice, one behind the other, in one slice.
  How rings that may have a fault are drawn. Generated text.
  Pieces of slices of bytes.
  How a key that may have a fault is drawn. Generated text.
  How the key of a new ring is drawn. Generated text.
  How a turn of a ring is drawn. Generated text.
  A copy of bytes that can be read: what the model's l1Copy answers.
-/
import Derived.Test.YtbfdbicddmffnabDrawRk
import Derived.Test.YtbfdbicddmffnabKsA
import Derived.Test.YtbfdbicddmffnabBase
import Derived.Test.YtbfdbicddmffnabSlX
import Derived.Deep.AppendLies

namespace Go.Proofs.Ytbfdbicddmffnab.M
open Go.ChangeShapes Go.WideShapes Go.ChangeAt Go.RowKit
open Go.Proofs.Ytbfdbicddmffnab.W

theorem FK.all {w : World} {lo hi X : Nat} {v : Value} {ks : List (Int × List Nat)} (h : FK w lo hi X v ks) : FK w lo hi hi v ks := fun w' k => h w' fun b b1 b2 _ => k b b1 b2 (by omega)
theorem fk_app2 {w w' : World} {lo m X g cap : Nat} {v : Value} {L : List Value} {ks : List (Int × List Nat)} (h1 : w.ownsRow lo 40 2 v ks.length L) (h2 : ∀ g, v.ownBlock = some g → g < m)
    (h3 : ∀ i (h : i < ks.length), ∃ u, L[i * 2]? = some (.int .i64 ks[i].1) ∧ L[i * 2 + 1]? = some u ∧ OB w lo m u ks[i].2 ∧ ∀ b, u.ownBlock = some b → v.ownBlock ≠ some b) (hX : m ≤ X) (hX2 : X < w.heap.size)
    (ho : w'.ownsRow lo 40 2 (.slice (some ⟨g, 0, none⟩) (ks.length + ks.length) cap) (ks.length + ks.length) (L ++ L)) (hG : w.grownBy w' v.ownBlock) (hg : v.ownBlock = some g ∨ g = w.heap.size) :
    FK w' lo w'.heap.size X (.slice (some ⟨g, 0, none⟩) (ks.length + ks.length) cap) (ks ++ ks) ∧ g ≠ X := by
  have hgX : g ≠ X := by
    rcases hg with q | q
    · have := h2 g q; omega
    · omega
  have hL : L.length = ks.length * 2 := h1.1
  have old : ∀ i (h : i < ks.length), ∃ u, L[i * 2]? = some (.int .i64 ks[i].1) ∧ L[i * 2 + 1]? = some u ∧ Owx w' lo u ks[i].2 ∧ ∀ b, u.ownBlock = some b → b ≠ X := fun i hi => by
    obtain ⟨u, a, b, c, d⟩ := h3 i hi
    exact ⟨u, a, b, owx_same c.1 fun b e => hG.block b (c.1.lt b e).2 (fun q => d b e q.symm), fun b e => by have := c.2 b e; omega⟩
  have hl : (ks ++ ks).length = ks.length + ks.length := List.length_append
  refine ⟨fk_row (T := 40) (L := L ++ L) (by rw [hl]; exact ho) (fun b e => by have := Option.some.inj (show some g = some b from e); omega) fun i hi => ?_, hgX⟩
  rw [hl] at hi
  rcases Nat.lt_or_ge i ks.length with q | q
  · obtain ⟨u, a, b, c, d⟩ := old i q
    refine ⟨u, by rw [List.getElem?_append_left (by omega), List.getElem_append_left q]; exact a, by rw [List.getElem?_append_left (by omega)]; exact b, by rw [List.getElem_append_left q]; exact c, d⟩
  · obtain ⟨u, a, b, c, d⟩ := old (i - ks.length) (by omega)
    refine ⟨u, ?_, ?_, ?_, d⟩
    · rw [List.getElem?_append_right (by omega), List.getElem_append_right q, show i * 2 - L.length = (i - ks.length) * 2 by omega]; exact a
    · rw [List.getElem?_append_right (by omega), show i * 2 + 1 - L.length = (i - ks.length) * 2 + 1 by omega]; exact b
    · rw [List.getElem_append_right q]; exact c
end Go.Proofs.Ytbfdbicddmffnab.M
namespace Go.Proofs.Ytbfdbicddmffnab.W
open Go.ChangeShapes Go.WideShapes Go.ChangeAt Go.RowKit
open Go.Proofs.Ytbfdbicddmffnab.M

theorem wp_appKK {o : Oper} {a : Act} {w : World} {K : Act → World → Prop} {Q : Exit → Act → World → Prop} (s x : Operand)
    (ho : o.op = .call { callee := .builtin .append, args := #[s, x], argTypes := #[36, 36] }) (ks : List (Int × List Nat)) (lo m X g0 n c0 : Nat) (hs : a.eval s = .slice (some ⟨g0, 0, none⟩) n c0) (hx : a.eval x = .slice (some ⟨g0, 0, none⟩) n c0) (hn : ks.length = n) (h : OKs w lo m (.slice (some ⟨g0, 0, none⟩) n c0) ks)
    (h0 : 0 < n) (hn2 : n ≤ 1048576) (hX : m ≤ X) (hX2 : X < w.heap.size)
    (hK : ∀ g cap w', FK w' lo w'.heap.size X (.slice (some ⟨g, 0, none⟩) (n + n) cap) (ks ++ ks) → w.grownBy w' (some g0) → K (a.put o.dst (.slice (some ⟨g, 0, none⟩) (n + n) cap)) w') : o.wp Try.prog a w K Q := by
  subst hn
  obtain ⟨i0, hi, hz0, hz1, hz2⟩ := info_parts infoKa
  obtain ⟨L, q1, q2, q3, q4⟩ := h
  have hL : L.length = ks.length * 2 := q1.1
  exact wp_append_lies w s x 36 ho lo 40 i0 _ 2 32 Try.underlying36 hi hz0 hz1 hz2 rfl (by omega) _ ks.length L hs q1 ⟨g0, 0, none⟩ ks.length c0 L hx hL (fun j u hj => by
    have hj2 : j < ks.length * 2 := by
      rcases Nat.lt_or_ge j L.length with q | q
      · omega
      · rw [List.getElem?_eq_none q] at hj; cases hj
    rw [Addr.add_lit, Nat.zero_add, World.ownsRow.cellAt q1 j hj2]
    exact hj) (fun u hu => by
    obtain ⟨j, hj, rfl⟩ := List.getElem_of_mem hu
    obtain ⟨u, a, b, c, d⟩ := q3 (j / 2) (by omega)
    rcases Nat.mod_two_eq_zero_or_one j with e | e
    · rw [show j / 2 * 2 = j by omega, List.getElem?_eq_getElem hj] at a
      rw [Option.some.inj a]
      rfl
    · rw [show j / 2 * 2 + 1 = j by omega, List.getElem?_eq_getElem hj] at b
      rw [Option.some.inj b]
      obtain ⟨p, cc, rfl, -⟩ := c.rd.parts
      rfl) h0 (by unfold maxLen; omega) (by omega) (by have := World.ownsRow.lt q1 g0 rfl; omega) _ rfl
    (fun g cap w' r1 r2 r3 r4 => hK g cap w' (fk_app2 q1 q2 q3 hX hX2 r1 r2 r3).1 r2)
theorem list_appKK {ops : Array Oper} {rest : List Oper} {o : Oper} {a : Act} {w : World} {Q : Exit → Act → World → Prop} (hgd : o.guard = none) (s x : Operand)
    (ho : o.op = .call { callee := .builtin .append, args := #[s, x], argTypes := #[36, 36] }) (ks : List (Int × List Nat)) (lo m X g0 n c0 : Nat) (hs : a.eval s = .slice (some ⟨g0, 0, none⟩) n c0) (hx : a.eval x = .slice (some ⟨g0, 0, none⟩) n c0) (hn : ks.length = n) (h : OKs w lo m (.slice (some ⟨g0, 0, none⟩) n c0) ks)
    (h0 : 0 < n) (hn2 : n ≤ 1048576) (hX : m ≤ X) (hX2 : X < w.heap.size)
    (hK : ∀ g cap w', FK w' lo w'.heap.size X (.slice (some ⟨g, 0, none⟩) (n + n) cap) (ks ++ ks) → w.grownBy w' (some g0) → wpList Try.prog ops Q rest (a.put o.dst (.slice (some ⟨g, 0, none⟩) (n + n) cap)) w') : wpList Try.prog ops Q (o :: rest) a w :=
  wpList_plain hgd fun _ hK' => wp_appKK s x ho ks lo m X g0 n c0 hs hx hn h h0 hn2 hX hX2 fun g cap w' r1 r2 => hK' _ _ (hK g cap w' r1 r2)
end Go.Proofs.Ytbfdbicddmffnab.W

namespace Go.Proofs.Ytbfdbicddmffnab.M
open Go.ChangeShapes Go.WideShapes Go.ChangeAt Go.RowKit
open Go.Proofs.Ytbfdbicddmffnab.W

/-- The keys of a ring that may have a fault: how many, and their numbers and bytes. -/
def KB (ks : List (Int × List Nat)) : Prop := ks.length ≤ 6 ∧ ∀ k ∈ ks, (0 ≤ k.1 ∧ k.1 ≤ 300) ∧ (1 ≤ k.2.length ∧ k.2.length ≤ 17) ∧ Byt k.2
theorem kb_nil : KB [] := ⟨by simp, fun k hk => by simp at hk⟩
theorem kb_of {ks : List (Int × List Nat)} (h : KOk ks) (hk : 1 ≤ ks.length ∧ ks.length ≤ 3) : KB ks ∧ ks.length ≤ 3 := ⟨⟨by omega, fun k q => by have := h k q; exact ⟨by omega, by omega, this.2.2⟩⟩, hk.2⟩
theorem kb_mem {ks : List (Int × List Nat)} (h : KB ks) {x : Int × List Nat} (hx : (0 ≤ x.1 ∧ x.1 ≤ 300) ∧ (1 ≤ x.2.length ∧ x.2.length ≤ 17) ∧ Byt x.2) : KB (ks.set 0 x) := ⟨by simpa using h.1, fun k q => by
  rcases List.mem_or_eq_of_mem_set q with q | rfl
  · exact h.2 k q
  · exact hx⟩
theorem kb_set0 {ks : List (Int × List Nat)} {y : Int} (h : KB ks) (h0 : 0 < ks.length) (hy : 0 ≤ y ∧ y ≤ 300) : KB (ks.set 0 (y, ks[0].2)) := kb_mem h ⟨hy, (h.2 _ (List.getElem_mem h0)).2⟩
theorem kb_setB {ks : List (Int × List Nat)} {r : List Nat} (h : KB ks) (h0 : 0 < ks.length) (hr : 1 ≤ r.length ∧ r.length ≤ 17) (hb : Byt r) : KB (ks.set 0 (ks[0].1, r)) := kb_mem h ⟨(h.2 _ (List.getElem_mem h0)).1, hr, hb⟩
theorem kb_app {ks : List (Int × List Nat)} (h : KB ks) (h3 : ks.length ≤ 3) : KB (ks ++ ks) := ⟨by rw [List.length_append]; omega, fun k q => by
  rcases List.mem_append.1 q with q | q
  · exact h.2 k q
  · exact h.2 k q⟩
theorem FK.ret {w : World} {lo lo' gr X : Nat} {v x y : Value} {ks : List (Int × List Nat)} (h : FK w lo w.heap.size X v ks) (hr : gr < lo) (hl : lo' ≤ lo) :
    FK ((w.setCell ⟨gr, 0, none⟩ x).setCell ⟨gr, 1, none⟩ y) lo' ((w.setCell ⟨gr, 0, none⟩ x).setCell ⟨gr, 1, none⟩ y).heap.size ((w.setCell ⟨gr, 0, none⟩ x).setCell ⟨gr, 1, none⟩ y).heap.size v ks :=
  (((h.set (.inl hr)).set (.inl hr)).mono hl (by simp [World.setCell])).all
theorem FK.setX {w : World} {lo X i : Nat} {v x : Value} {ks : List (Int × List Nat)} (h : FK w lo w.heap.size X v ks) : FK (w.setCell ⟨X, i, none⟩ x) lo (w.setCell ⟨X, i, none⟩ x).heap.size X v ks :=
  (h.set (.inr (.inr rfl))).mono (Nat.le_refl _) (by simp [World.setCell])
end Go.Proofs.Ytbfdbicddmffnab.M
namespace Go.Proofs.Ytbfdbicddmffnab.W
open Go.ChangeShapes Go.WideShapes Go.ChangeAt Go.RowKit
open Go.Proofs.Ytbfdbicddmffnab.M

set_option maxHeartbeats 8000000 in
set_option maxRecDepth 100000 in
theorem l4b (w0 w : World) (g : Nat) (v : Value) (l : List Nat) (t : Nat) (h : Src w0 w g v l t) (ht : t ≤ 600000) (hl : l.length ≤ 1048576) :
    Calls Try.prog 78 #[.pointer (some ⟨g, 0, none⟩)] w fun e w' => ∃ (pr : Int) (u : Value) (ks : List (Int × List Nat)) (t' : Nat), e = .returned (.agg #[.int .i64 pr, u]) ∧ FK w' w.heap.size w'.heap.size w'.heap.size u ks ∧ KB ks ∧ (0 ≤ pr ∧ pr ≤ 300) ∧ t' ≤ t + 60 ∧ Src w0 w' g v l t' ∧ w.grownBy w' (some g) := by
  have GV := hid (show g < w.heap.size from var_lt h.cells)
  have NV := hid (show w0.heap.size ≤ w.heap.size from h.bel.size)
  have S := hid (h.later (below_alloc1 w (.cells #[.int .i64 0, .slice none 0 0] 38)))
  have G := hid (grown_of_below (below_alloc1 w (.cells #[.int .i64 0, .slice none 0 0] 38)) (some g))
  have VR := hid (heap_alloc_new w (.cells #[.int .i64 0, .slice none 0 0] 38))
  have SZ := hid (show (w.alloc (.cells #[.int .i64 0, .slice none 0 0] 38)).heap.size = w.heap.size + 1 by simp)
  clear h
  go_enter Try.func78, Try.ntmps78
  go_wp2_with fail
  generalize w.alloc (.cells #[.int .i64 0, .slice none 0 0] 38) = x0 at *
  obtain ⟨gr, hg⟩ : ∃ g, g = w.heap.size := ⟨_, rfl⟩
  rw [← hg] at VR ⊢
  have NVR := hid (show gr ≠ g by have := GV.out; omega)
  refine (l4d w0 x0 g v l t S.out (by omega) hl).mono ?_
  rintro e x1 ⟨pr, u, ks, t', rfl, hO, hk, KO, hpr, htt, hS, hG⟩
  obtain ⟨N, hN⟩ : ∃ q, q = x0.heap.size + 2 := ⟨_, rfl⟩
  rw [← hN] at hO
  obtain ⟨gk, cu, rfl, hkl, hkh⟩ := hO.shape (by omega)
  obtain ⟨gw, hgw⟩ : ∃ q, q = x1.heap.size := ⟨_, rfl⟩
  have LQ := hid (show gr = w.heap.size ∧ g < gr ∧ gr < N ∧ N ≤ gk ∧ gk < gw by have := SZ.out; have := GV.out; omega)
  have GN := hid (show g < N by have := LQ.out; omega)
  have NVW := hid (show gw ≠ g by have := LQ.out; omega)
  have NRW := hid (show gr ≠ gw by have := LQ.out; omega)
  have NKW := hid (show gk ≠ gw by have := LQ.out; omega)
  have OK := hid hO
  replace S := hid hS
  replace VR := hid (var_grown hG VR.out (fun e => by have := Option.some.inj e; have := NVR.out; omega))
  replace G := hid (grown_trans G.out hG)
  have KX := hid (kb_of KO hk)
  have hh := hid hgw
  rw [← hgw] at OK
  clear hO KO hS hG hN hkl hkh hg hgw SZ
  have HK : Hid (∃ n, n = ks.length) := hid ⟨_, rfl⟩
  obtain ⟨n, hn⟩ := HK.out
  clear HK
  rw [← hn] at OK hk ⊢
  have HN := hid hn
  clear hn
  have VW := hid (heap_alloc_new x1 (.cells #[.int .i64 pr, .slice (some ⟨gk, 0, none⟩) n cu] 38))
  have hA := below_alloc1 x1 (.cells #[.int .i64 pr, .slice (some ⟨gk, 0, none⟩) n cu] 38)
  have SA := hid (show x1.heap.size < (x1.alloc (.cells #[.int .i64 pr, .slice (some ⟨gk, 0, none⟩) n cu] 38)).heap.size by simp)
  replace S := hid (S.out.later hA)
  replace OK := hid (OK.out.below hA)
  replace VR := hid (var_below hA VR.out)
  replace G := hid (grown_trans G.out (grown_of_below hA (some g)))
  clear hA
  obtain ⟨y0, y1, -, -⟩ := var2_facts VW.out
  go_wp2_with fail
  clear y0 y1
  generalize x1.alloc (.cells #[.int .i64 pr, .slice (some ⟨gk, 0, none⟩) n cu] 38) = x2 at *
  rw [← hh.out] at VW SA ⊢
  have HM := SA
  clear hh SA
  refine (next w0 x2 g v l _ 14 S.out (by omega) (by omega) hl).mono ?_
  rintro e x3 ⟨r, rfl, hr, hS, hG⟩
  replace S := hid hS
  replace OK := hid (OK.out.keepGk hG GN.out (Nat.le_of_lt HM.out))
  replace VR := hid (var_grown hG VR.out (fun e => by have := Option.some.inj e; have := NVR.out; omega))
  replace VW := hid (var_grown hG VW.out (fun e => by have := Option.some.inj e; have := NVW.out; omega))
  replace HM := hid (Nat.lt_of_lt_of_le HM.out hG.size)
  replace G := hid (grown_trans G.out hG)
  clear hS hG
  clear hr
  by_cases r0 : r = 0
  · subst r0
    obtain ⟨y0, y1, f0, f1⟩ := var2_facts VW.out
    go_upto_region 13 with fail
    clear y0 y1 f0 f1
    have e1 := heap_setCell_same x3 gw 1 _ _ (.slice none 0 0) VW.out
    have VY := hid (show (x3.setCell ⟨gw, 1, none⟩ (.slice none 0 0)).heap[gw]? = some (.cells #[.int .i64 pr, .slice none 0 0] 38) by simpa using e1)
    replace VR := hid (set1_otherk (i := 1) (x := .slice none 0 0) NRW.out VR.out)
    replace S := hid (src_set (i := 1) (V := gw) S.out (fun e => NVW.out e.symm) (by have := LQ.out; have := NV.out; omega) (.slice none 0 0))
    replace G := hid (grown_set (i := 1) (V := gw) G.out (by have := LQ.out; omega) (.slice none 0 0))
    clear VW e1 HM OK
    have VW := VY
    clear VY
    generalize x3.setCell ⟨gw, 1, none⟩ (.slice none 0 0) = x5 at *
    obtain ⟨y0, y1, -, -⟩ := var2_facts VW.out
    obtain ⟨u0, u1, z0, z1⟩ := var2_facts VR.out
    have V2 := hid (var2_set (x' := .int .i64 pr) (y' := .slice none 0 0) VR.out)
    have F2 := hid (FK.ret (gr := gr) (x := .int .i64 pr) (y := .slice none 0 0) (FK.nil x5 N x5.heap.size gw) (show gr < N by have := LQ.out; omega) (show w.heap.size ≤ N by have := LQ.out; omega))
    have S2 := hid (src_set (i := 1) (V := gr) (src_set (i := 0) (V := gr) S.out (fun e => NVR.out e.symm) (by have := LQ.out; have := NV.out; omega) (.int .i64 pr)) (fun e => NVR.out e.symm) (by have := LQ.out; have := NV.out; omega) (.slice none 0 0))
    have G2 := hid (grown_set (i := 1) (V := gr) (grown_set (i := 0) (V := gr) G.out (by have := LQ.out; omega) (.int .i64 pr)) (by have := LQ.out; omega) (.slice none 0 0))
    have KB2 := hid kb_nil
    clear S G
    go_wp2
    try simp only [Exit.inBlock, Exit.then]
    exact bodyPost_ret (v := .agg #[.int .i64 pr, .slice none 0 0]) (results_cell_row rfl _ _ gr 38 _ _ _ rfl V2.out Try.underlying38 rfl (by kernel_rfl)) rfl ⟨pr, .slice none 0 0, _, _, rfl, F2.out, KB2.out, ⟨by omega, by omega⟩, by omega, S2.out, G2.out⟩
  by_cases r1 : r = 1
  · subst r1
    clear r0
    have VL := hid (show Lst (x3.alloc (.cells #[.int .i64 0, .int .i64 200] 2)) x3.heap.size [0, 200] from heap_alloc_new x3 (.cells #[.int .i64 0, .int .i64 200] 2))
    have hA := below_alloc1 x3 (.cells #[.int .i64 0, .int .i64 200] 2)
    have NG := hid (show x3.heap.size ≠ g by have := var_lt S.out.cells; omega)
    replace S := hid (S.out.later hA)
    replace OK := hid (OK.out.below hA)
    replace VR := hid (var_below hA VR.out)
    replace VW := hid (var_below hA VW.out)
    replace HM := hid (Nat.lt_of_lt_of_le HM.out hA.size)
    replace G := hid (grown_trans G.out (grown_of_below hA (some g)))
    clear hA
    go_wp2_with fail
    refine (pick' w0 _ g x3.heap.size 2 v l _ [0, 200] S.out (by omega) hl VL.out NG.out rfl (by omega) (by omega)).mono ?_
    rintro e x4 ⟨y, hy, rfl, hS, hG⟩
    replace S := hid hS
    replace OK := hid (OK.out.keepGk hG GN.out (Nat.le_of_lt HM.out))
    replace VR := hid (var_grown hG VR.out (fun e => by have := Option.some.inj e; have := NVR.out; omega))
    replace VW := hid (var_grown hG VW.out (fun e => by have := Option.some.inj e; have := NVW.out; omega))
    replace HM := hid (Nat.lt_of_lt_of_le HM.out hG.size)
    replace G := hid (grown_trans G.out hG)
    clear hS hG
    clear VL NG
    have hy2 : 0 ≤ y ∧ y ≤ 300 := by simp at hy; omega
    clear hy
    obtain ⟨y0, y1, f0, f1⟩ := var2_facts VW.out
    go_upto_region 13 with fail
    clear y0 y1 f0 f1
    have FX := hid ((fk_oks OK.out (Nat.le_refl gw)).setX (i := 0) (x := .int .i64 y))
    have e1 := heap_setCell_same x4 gw 0 _ _ (.int .i64 y) VW.out
    have VY := hid (show (x4.setCell ⟨gw, 0, none⟩ (.int .i64 y)).heap[gw]? = some (.cells #[.int .i64 y, .slice (some ⟨gk, 0, none⟩) n cu] 38) by simpa using e1)
    replace VR := hid (set1_otherk (i := 0) (x := .int .i64 y) NRW.out VR.out)
    replace S := hid (src_set (i := 0) (V := gw) S.out (fun e => NVW.out e.symm) (by have := LQ.out; have := NV.out; omega) (.int .i64 y))
    replace G := hid (grown_set (i := 0) (V := gw) G.out (by have := LQ.out; omega) (.int .i64 y))
    clear VW e1 HM OK
    have VW := VY
    clear VY
    generalize x4.setCell ⟨gw, 0, none⟩ (.int .i64 y) = x5 at *
    obtain ⟨y0, y1, -, -⟩ := var2_facts VW.out
    obtain ⟨u0, u1, z0, z1⟩ := var2_facts VR.out
    have V2 := hid (var2_set (x' := .int .i64 y) (y' := .slice (some ⟨gk, 0, none⟩) n cu) VR.out)
    have F2 := hid (FK.ret (gr := gr) (x := .int .i64 y) (y := .slice (some ⟨gk, 0, none⟩) n cu) FX.out (show gr < N by have := LQ.out; omega) (show w.heap.size ≤ N by have := LQ.out; omega))
    have S2 := hid (src_set (i := 1) (V := gr) (src_set (i := 0) (V := gr) S.out (fun e => NVR.out e.symm) (by have := LQ.out; have := NV.out; omega) (.int .i64 y)) (fun e => NVR.out e.symm) (by have := LQ.out; have := NV.out; omega) (.slice (some ⟨gk, 0, none⟩) n cu))
    have G2 := hid (grown_set (i := 1) (V := gr) (grown_set (i := 0) (V := gr) G.out (by have := LQ.out; omega) (.int .i64 y)) (by have := LQ.out; omega) (.slice (some ⟨gk, 0, none⟩) n cu))
    have KB2 := hid KX.out.1
    clear S G
    go_wp2
    try simp only [Exit.inBlock, Exit.then]
    exact bodyPost_ret (v := .agg #[.int .i64 y, .slice (some ⟨gk, 0, none⟩) n cu]) (results_cell_row rfl _ _ gr 38 _ _ _ rfl V2.out Try.underlying38 rfl (by kernel_rfl)) rfl ⟨y, .slice (some ⟨gk, 0, none⟩) n cu, _, _, rfl, F2.out, KB2.out, hy2, by omega, S2.out, G2.out⟩
  by_cases r2 : r = 2
  · subst r2
    clear r0 r1
    go_wp2
    obtain ⟨y0, y1, -, -⟩ := var2_facts VW.out
    refine wp_region_held_drew (S := fun w' => w'.cell? ⟨gw, 1, none⟩ = some (.slice (some ⟨gk, 0, none⟩) n cu)) (by kernel_rfl) y1 (fun hH => ?_)
    have VWd := hid (show x3.drew.heap[gw]? = some (.cells #[.int .i64 pr, .slice (some ⟨gk, 0, none⟩) n cu] 38) from VW.out)
    have VRd := hid (show x3.drew.heap[gr]? = some (.cells #[.int .i64 0, .slice none 0 0] 38) from VR.out)
    have OKd := hid (show OKs x3.drew N gw _ ks from OK.out.agr (fun _ _ _ => rfl))
    have Sd := hid (S.out.drewN 1)
    have Gd := hid (grown_drewN G.out 1)
    have HMd := hid (show gw < x3.drew.heap.size from HM.out)
    clear y0 y1 VW VR OK S G HM
    change Hid (Src w0 x3.drew g v l _) at Sd
    change Hid (w.grownBy x3.drew (some g)) at Gd
    generalize x3.drew = x at *
    have VW := VWd
    have VR := VRd
    have OK := OKd
    have S := Sd
    have G := Gd
    have HM := HMd
    clear VWd VRd OKd Sd Gd HMd
    refine wpAnyH_take (i := 0) (v := .pointer (some ⟨gw, 1, none⟩)) (by simp only [List.getElem?_toArray, List.getElem?_cons_zero]; rfl) (by kernel_rfl) (by kernel_rfl) (by kernel_rfl) (by intro _ _ _ h; exact h) (Or.inl ⟨by rfl, fun w hS => by go_simp⟩) hH ?_
    simp only [Act.put, List.setIfInBounds_toArray, List.set_cons_zero, List.set_cons_succ]
    refine wpAnyH_take (i := 1) (v := .slice (some ⟨gk, 0, none⟩) n cu) (by simp only [List.getElem?_toArray, List.getElem?_cons_succ, List.getElem?_cons_zero]; rfl) (by kernel_rfl) (by kernel_rfl) (by kernel_rfl) (by intro _ _ _ h; exact h) (Or.inl ⟨by rfl, fun w hS => by (have y1 := hS; go_simp)⟩) hH ?_
    simp only [Act.put, List.setIfInBounds_toArray, List.set_cons_zero, List.set_cons_succ]
    refine wpAnyH_take (i := 2) (v := .pointer (some ⟨g, 0, none⟩)) (by simp only [List.getElem?_toArray, List.getElem?_cons_succ, List.getElem?_cons_zero]; rfl) (by kernel_rfl) (by kernel_rfl) (by kernel_rfl) (by intro _ _ _ h; exact h) (Or.inl ⟨by rfl, fun w hS => by go_simp⟩) hH ?_
    simp only [Act.put, List.setIfInBounds_toArray, List.set_cons_zero, List.set_cons_succ]
    refine wpAnyH_ready (rs := [3]) (by kernel_rfl) (by simp) ?_
    refine AllReadyH.cons (by simp only [List.getElem?_toArray, List.getElem?_cons_succ, List.getElem?_cons_zero]; rfl) (fun K hK => ?_) AllReadyH.nil
    go_simp
    have VL := hid (show Lst (x.alloc (.cells #[.int .i64 0, .int .i64 255, .int .i64 256] 2)) x.heap.size [0, 255, 256] from heap_alloc_new x (.cells #[.int .i64 0, .int .i64 255, .int .i64 256] 2))
    have hA := below_alloc1 x (.cells #[.int .i64 0, .int .i64 255, .int .i64 256] 2)
    have NG := hid (show x.heap.size ≠ g by have := var_lt S.out.cells; omega)
    replace S := hid (S.out.later hA)
    replace OK := hid (OK.out.below hA)
    replace VR := hid (var_below hA VR.out)
    replace VW := hid (var_below hA VW.out)
    replace HM := hid (Nat.lt_of_lt_of_le HM.out hA.size)
    replace G := hid (grown_trans G.out (grown_of_below hA (some g)))
    clear hA
    refine hK.out _ _ (var2_facts VW.out).2.1 (fun hH => ?_)
    clear hK K
    generalize x.alloc (.cells #[.int .i64 0, .int .i64 255, .int .i64 256] 2) = xa at *
    obtain ⟨gl, hgl⟩ : ∃ g, g = x.heap.size := ⟨_, rfl⟩
    rw [← hgl] at VL NG ⊢
    clear hgl
    refine wpAnyH_ready (rs := [4]) (by kernel_rfl) (by simp) ?_
    refine AllReadyH.cons (by simp only [List.getElem?_toArray, List.getElem?_cons_succ, List.getElem?_cons_zero]; rfl) (fun K hK => ?_) AllReadyH.nil
    go_simp
    refine (pick' w0 _ g gl 3 v l _ [0, 255, 256] S.out (by omega) hl VL.out NG.out rfl (by omega) (by omega)).mono ?_
    rintro e xb ⟨y, hy, rfl, hS, hG⟩
    replace S := hid hS
    replace OK := hid (OK.out.keepGk hG GN.out (Nat.le_of_lt HM.out))
    replace VR := hid (var_grown hG VR.out (fun e => by have := Option.some.inj e; have := NVR.out; omega))
    replace VW := hid (var_grown hG VW.out (fun e => by have := Option.some.inj e; have := NVW.out; omega))
    replace HM := hid (Nat.lt_of_lt_of_le HM.out hG.size)
    replace G := hid (grown_trans G.out hG)
    clear hS hG
    refine hK.out _ _ (var2_facts VW.out).2.1 (fun hH => ?_)
    clear hK K VL NG
    have hy2 : 0 ≤ y ∧ y ≤ 300 := by simp at hy; omega
    clear hy
    have I1 := idx_kd gk 0 n cu 0 (by omega)
    rw [show 0 + 0 * 2 = 0 from rfl] at I1
    change ∀ w, (Instr.indexAt 36 (.slice (some ⟨gk, 0, none⟩) n cu) (.int .i64 0)).run Try.prog w = .ok (.pointer (some ⟨gk, 0, none⟩)) w at I1
    refine wpAnyH_take (i := 5) (v := .pointer (some ⟨gk, 0, none⟩)) (by simp only [List.getElem?_toArray, List.getElem?_cons_succ, List.getElem?_cons_zero]; rfl) (by kernel_rfl) (by kernel_rfl) (by kernel_rfl) (by intro _ _ _ h; exact h) (Or.inl ⟨by rfl, fun w hS => by go_simp⟩) hH ?_
    simp only [Act.put, List.setIfInBounds_toArray, List.set_cons_zero, List.set_cons_succ]
    refine wpAnyH_take (i := 6) (v := .pointer (some ⟨gk, 0, none⟩)) (by simp only [List.getElem?_toArray, List.getElem?_cons_succ, List.getElem?_cons_zero]; rfl) (by kernel_rfl) (by kernel_rfl) (by kernel_rfl) (by intro _ _ _ h; exact h) (Or.inl ⟨by rfl, fun w hS => by go_simp⟩) hH ?_
    simp only [Act.put, List.setIfInBounds_toArray, List.set_cons_zero, List.set_cons_succ]
    clear I1
    obtain ⟨m1, m2, m3, -⟩ := OK.out.mark1 HN.out.symm 0 (by have := HN.out; omega) y
    rw [show 0 * 2 = 0 from rfl] at m1 m2 m3
    refine wpAnyH_ready (rs := [7]) (by kernel_rfl) (by simp) ?_
    refine AllReadyH.cons (by simp only [List.getElem?_toArray, List.getElem?_cons_succ, List.getElem?_cons_zero]; rfl) (fun K hK => ?_) AllReadyH.nil
    go_simp
    have FX := hid (fk_oks m1 (Nat.le_refl gw))
    have KY := hid (kb_set0 KX.out.1 (show 0 < ks.length by have := HN.out; omega) hy2)
    clear m1 m2 m3
    have VW3 := hid (set1_otherk (i := 0) (x := .int .i64 y) NKW.out.symm VW.out)
    have VR3 := hid (set1_otherk (i := 0) (x := .int .i64 y) (show gr ≠ gk by have := LQ.out; omega) VR.out)
    have S3 := hid (src_set (i := 0) (V := gk) S.out (by have := LQ.out; omega) (by have := LQ.out; have := NV.out; omega) (.int .i64 y))
    have G3 := hid (grown_set (i := 0) (V := gk) G.out (by have := LQ.out; omega) (.int .i64 y))
    refine hK.out _ _ (var2_facts VW3.out).2.1 (fun hH => ?_)
    clear hK K VW VR S G OK HM
    have VW := VW3
    have VR := VR3
    have S := S3
    have G := G3
    clear VW3 VR3 S3 G3
    generalize xb.setCell ⟨gk, 0, none⟩ (.int .i64 y) = x5 at *
    refine wpAnyH_done (by kernel_rfl) ?_ _
    obtain ⟨y0, y1, -, -⟩ := var2_facts VW.out
    obtain ⟨u0, u1, z0, z1⟩ := var2_facts VR.out
    have V2 := hid (var2_set (x' := .int .i64 pr) (y' := .slice (some ⟨gk, 0, none⟩) n cu) VR.out)
    have F2 := hid (FK.ret (gr := gr) (x := .int .i64 pr) (y := .slice (some ⟨gk, 0, none⟩) n cu) FX.out (show gr < N by have := LQ.out; omega) (show w.heap.size ≤ N by have := LQ.out; omega))
    have S2 := hid (src_set (i := 1) (V := gr) (src_set (i := 0) (V := gr) S.out (fun e => NVR.out e.symm) (by have := LQ.out; have := NV.out; omega) (.int .i64 pr)) (fun e => NVR.out e.symm) (by have := LQ.out; have := NV.out; omega) (.slice (some ⟨gk, 0, none⟩) n cu))
    have G2 := hid (grown_set (i := 1) (V := gr) (grown_set (i := 0) (V := gr) G.out (by have := LQ.out; omega) (.int .i64 pr)) (by have := LQ.out; omega) (.slice (some ⟨gk, 0, none⟩) n cu))
    have KB2 := hid KY.out
    clear S G
    go_wp2
    try simp only [Exit.inBlock, Exit.then]
    exact bodyPost_ret (v := .agg #[.int .i64 pr, .slice (some ⟨gk, 0, none⟩) n cu]) (results_cell_row rfl _ _ gr 38 _ _ _ rfl V2.out Try.underlying38 rfl (by kernel_rfl)) rfl ⟨pr, .slice (some ⟨gk, 0, none⟩) n cu, _, _, rfl, F2.out, KB2.out, ⟨by omega, by omega⟩, by omega, S2.out, G2.out⟩
  by_cases r3 : r = 3
  · subst r3
    clear r0 r1 r2
    go_wp2
    obtain ⟨y0, y1, -, -⟩ := var2_facts VW.out
    refine wp_region_held_drew (S := fun w' => w'.cell? ⟨gw, 1, none⟩ = some (.slice (some ⟨gk, 0, none⟩) n cu)) (by kernel_rfl) y1 (fun hH => ?_)
    have VWd := hid (show x3.drew.heap[gw]? = some (.cells #[.int .i64 pr, .slice (some ⟨gk, 0, none⟩) n cu] 38) from VW.out)
    have VRd := hid (show x3.drew.heap[gr]? = some (.cells #[.int .i64 0, .slice none 0 0] 38) from VR.out)
    have OKd := hid (show OKs x3.drew N gw _ ks from OK.out.agr (fun _ _ _ => rfl))
    have Sd := hid (S.out.drewN 1)
    have Gd := hid (grown_drewN G.out 1)
    have HMd := hid (show gw < x3.drew.heap.size from HM.out)
    clear y0 y1 VW VR OK S G HM
    change Hid (Src w0 x3.drew g v l _) at Sd
    change Hid (w.grownBy x3.drew (some g)) at Gd
    generalize x3.drew = x at *
    have VW := VWd
    have VR := VRd
    have OK := OKd
    have S := Sd
    have G := Gd
    have HM := HMd
    clear VWd VRd OKd Sd Gd HMd
    refine wpAnyH_take (i := 0) (v := .pointer (some ⟨gw, 1, none⟩)) (by simp only [List.getElem?_toArray, List.getElem?_cons_zero]; rfl) (by kernel_rfl) (by kernel_rfl) (by kernel_rfl) (by intro _ _ _ h; exact h) (Or.inl ⟨by rfl, fun w hS => by go_simp⟩) hH ?_
    simp only [Act.put, List.setIfInBounds_toArray, List.set_cons_zero, List.set_cons_succ]
    refine wpAnyH_take (i := 1) (v := .slice (some ⟨gk, 0, none⟩) n cu) (by simp only [List.getElem?_toArray, List.getElem?_cons_succ, List.getElem?_cons_zero]; rfl) (by kernel_rfl) (by kernel_rfl) (by kernel_rfl) (by intro _ _ _ h; exact h) (Or.inl ⟨by rfl, fun w hS => by (have y1 := hS; go_simp)⟩) hH ?_
    simp only [Act.put, List.setIfInBounds_toArray, List.set_cons_zero, List.set_cons_succ]
    refine wpAnyH_take (i := 2) (v := .pointer (some ⟨g, 0, none⟩)) (by simp only [List.getElem?_toArray, List.getElem?_cons_succ, List.getElem?_cons_zero]; rfl) (by kernel_rfl) (by kernel_rfl) (by kernel_rfl) (by intro _ _ _ h; exact h) (Or.inl ⟨by rfl, fun w hS => by go_simp⟩) hH ?_
    simp only [Act.put, List.setIfInBounds_toArray, List.set_cons_zero, List.set_cons_succ]
    refine wpAnyH_take (i := 3) (v := .pointer (some ⟨g, 0, none⟩)) (by simp only [List.getElem?_toArray, List.getElem?_cons_succ, List.getElem?_cons_zero]; rfl) (by kernel_rfl) (by kernel_rfl) (by kernel_rfl) (by intro _ _ _ h; exact h) (Or.inl ⟨by rfl, fun w hS => by go_simp⟩) hH ?_
    simp only [Act.put, List.setIfInBounds_toArray, List.set_cons_zero, List.set_cons_succ]
    refine wpAnyH_ready (rs := [4]) (by kernel_rfl) (by simp) ?_
    refine AllReadyH.cons (by simp only [List.getElem?_toArray, List.getElem?_cons_succ, List.getElem?_cons_zero]; rfl) (fun K hK => ?_) AllReadyH.nil
    go_simp
    have VL := hid (show Lst (x.alloc (.cells #[.int .i64 15, .int .i64 17] 2)) x.heap.size [15, 17] from heap_alloc_new x (.cells #[.int .i64 15, .int .i64 17] 2))
    have hA := below_alloc1 x (.cells #[.int .i64 15, .int .i64 17] 2)
    have NG := hid (show x.heap.size ≠ g by have := var_lt S.out.cells; omega)
    replace S := hid (S.out.later hA)
    replace OK := hid (OK.out.below hA)
    replace VR := hid (var_below hA VR.out)
    replace VW := hid (var_below hA VW.out)
    replace HM := hid (Nat.lt_of_lt_of_le HM.out hA.size)
    replace G := hid (grown_trans G.out (grown_of_below hA (some g)))
    clear hA
    refine hK.out _ _ (var2_facts VW.out).2.1 (fun hH => ?_)
    clear hK K
    generalize x.alloc (.cells #[.int .i64 15, .int .i64 17] 2) = xa at *
    obtain ⟨gl, hgl⟩ : ∃ g, g = x.heap.size := ⟨_, rfl⟩
    rw [← hgl] at VL NG ⊢
    clear hgl
    refine wpAnyH_ready (rs := [5]) (by kernel_rfl) (by simp) ?_
    refine AllReadyH.cons (by simp only [List.getElem?_toArray, List.getElem?_cons_succ, List.getElem?_cons_zero]; rfl) (fun K hK => ?_) AllReadyH.nil
    go_simp
    refine (pick' w0 _ g gl 2 v l _ [15, 17] S.out (by omega) hl VL.out NG.out rfl (by omega) (by omega)).mono ?_
    rintro e xb ⟨y, hy, rfl, hS, hG⟩
    replace S := hid hS
    replace OK := hid (OK.out.keepGk hG GN.out (Nat.le_of_lt HM.out))
    replace VR := hid (var_grown hG VR.out (fun e => by have := Option.some.inj e; have := NVR.out; omega))
    replace VW := hid (var_grown hG VW.out (fun e => by have := Option.some.inj e; have := NVW.out; omega))
    replace HM := hid (Nat.lt_of_lt_of_le HM.out hG.size)
    replace G := hid (grown_trans G.out hG)
    clear hS hG
    refine hK.out _ _ (var2_facts VW.out).2.1 (fun hH => ?_)
    clear hK K VL NG
    obtain ⟨m, rfl, hm⟩ : ∃ m : Nat, y = (m : Int) ∧ 1 ≤ m ∧ m ≤ 17 := ⟨y.toNat, by simp at hy; omega, by simp at hy; omega⟩
    clear hy
    refine wpAnyH_ready (rs := [6]) (by kernel_rfl) (by simp) ?_
    refine AllReadyH.cons (by simp only [List.getElem?_toArray, List.getElem?_cons_succ, List.getElem?_cons_zero]; rfl) (fun K hK => ?_) AllReadyH.nil
    go_simp
    refine (some' w0 xb g v l _ m S.out (by omega) hl).mono ?_
    rintro e xc ⟨gb, cb, rr, rfl, hrl, hy, hO, hS, hG⟩
    have OBy := hid ((hO.x).mono (Nat.le_of_lt HM.out))
    have AB := hid (show ∀ b, (Value.slice (some ⟨gb, 0, none⟩) m cb).ownBlock = some b → b ≠ gw from fun b e => by have := (hO.x.lt b e).1; have := HM.out; omega)
    have KB3 := hid (show rr.length = m ∧ Byt rr from ⟨hrl, hy⟩)
    clear hO hrl hy
    replace S := hid hS
    replace OK := hid (OK.out.keepGk hG GN.out (Nat.le_of_lt HM.out))
    replace VR := hid (var_grown hG VR.out (fun e => by have := Option.some.inj e; have := NVR.out; omega))
    replace VW := hid (var_grown hG VW.out (fun e => by have := Option.some.inj e; have := NVW.out; omega))
    replace HM := hid (Nat.lt_of_lt_of_le HM.out hG.size)
    replace G := hid (grown_trans G.out hG)
    clear hS hG
    refine hK.out _ _ (var2_facts VW.out).2.1 (fun hH => ?_)
    clear hK K
    have I1 := idx_kd gk 0 n cu 0 (by omega)
    rw [show 0 + 0 * 2 = 0 from rfl] at I1
    change ∀ w, (Instr.indexAt 36 (.slice (some ⟨gk, 0, none⟩) n cu) (.int .i64 0)).run Try.prog w = .ok (.pointer (some ⟨gk, 0, none⟩)) w at I1
    refine wpAnyH_take (i := 7) (v := .pointer (some ⟨gk, 0, none⟩)) (by simp only [List.getElem?_toArray, List.getElem?_cons_succ, List.getElem?_cons_zero]; rfl) (by kernel_rfl) (by kernel_rfl) (by kernel_rfl) (by intro _ _ _ h; exact h) (Or.inl ⟨by rfl, fun w hS => by go_simp⟩) hH ?_
    simp only [Act.put, List.setIfInBounds_toArray, List.set_cons_zero, List.set_cons_succ]
    refine wpAnyH_take (i := 8) (v := .pointer (some ⟨gk, 1, none⟩)) (by simp only [List.getElem?_toArray, List.getElem?_cons_succ, List.getElem?_cons_zero]; rfl) (by kernel_rfl) (by kernel_rfl) (by kernel_rfl) (by intro _ _ _ h; exact h) (Or.inl ⟨by rfl, fun w hS => by go_simp⟩) hH ?_
    simp only [Act.put, List.setIfInBounds_toArray, List.set_cons_zero, List.set_cons_succ]
    clear I1
    obtain ⟨m1, m3, xx, m2⟩ := fk_setB HN.out.symm OK.out (show 0 < ks.length by have := HN.out; omega) (Nat.le_refl gw) OBy.out AB.out
    refine wpAnyH_ready (rs := [9]) (by kernel_rfl) (by simp) ?_
    refine AllReadyH.cons (by simp only [List.getElem?_toArray, List.getElem?_cons_succ, List.getElem?_cons_zero]; rfl) (fun K hK => ?_) AllReadyH.nil
    go_simp
    have FX := hid m1
    have KY := hid (kb_setB KX.out.1 (show 0 < ks.length by have := HN.out; omega) (show 1 ≤ rr.length ∧ rr.length ≤ 17 by have := KB3.out.1; omega) KB3.out.2)
    clear m1 m2 m3 OBy AB
    have VW3 := hid (set1_otherk (i := 1) (x := .slice (some ⟨gb, 0, none⟩) m cb) NKW.out.symm VW.out)
    have VR3 := hid (set1_otherk (i := 1) (x := .slice (some ⟨gb, 0, none⟩) m cb) (show gr ≠ gk by have := LQ.out; omega) VR.out)
    have S3 := hid (src_set (i := 1) (V := gk) S.out (by have := LQ.out; omega) (by have := LQ.out; have := NV.out; omega) (.slice (some ⟨gb, 0, none⟩) m cb))
    have G3 := hid (grown_set (i := 1) (V := gk) G.out (by have := LQ.out; omega) (.slice (some ⟨gb, 0, none⟩) m cb))
    refine hK.out _ _ (var2_facts VW3.out).2.1 (fun hH => ?_)
    clear hK K VW VR S G OK HM
    have VW := VW3
    have VR := VR3
    have S := S3
    have G := G3
    clear VW3 VR3 S3 G3
    generalize xc.setCell ⟨gk, 1, none⟩ (.slice (some ⟨gb, 0, none⟩) m cb) = x5 at *
    refine wpAnyH_done (by kernel_rfl) ?_ _
    obtain ⟨y0, y1, -, -⟩ := var2_facts VW.out
    obtain ⟨u0, u1, z0, z1⟩ := var2_facts VR.out
    have V2 := hid (var2_set (x' := .int .i64 pr) (y' := .slice (some ⟨gk, 0, none⟩) n cu) VR.out)
    have F2 := hid (FK.ret (gr := gr) (x := .int .i64 pr) (y := .slice (some ⟨gk, 0, none⟩) n cu) FX.out (show gr < N by have := LQ.out; omega) (show w.heap.size ≤ N by have := LQ.out; omega))
    have S2 := hid (src_set (i := 1) (V := gr) (src_set (i := 0) (V := gr) S.out (fun e => NVR.out e.symm) (by have := LQ.out; have := NV.out; omega) (.int .i64 pr)) (fun e => NVR.out e.symm) (by have := LQ.out; have := NV.out; omega) (.slice (some ⟨gk, 0, none⟩) n cu))
    have G2 := hid (grown_set (i := 1) (V := gr) (grown_set (i := 0) (V := gr) G.out (by have := LQ.out; omega) (.int .i64 pr)) (by have := LQ.out; omega) (.slice (some ⟨gk, 0, none⟩) n cu))
    have KB2 := hid KY.out
    clear S G
    go_wp2
    try simp only [Exit.inBlock, Exit.then]
    exact bodyPost_ret (v := .agg #[.int .i64 pr, .slice (some ⟨gk, 0, none⟩) n cu]) (results_cell_row rfl _ _ gr 38 _ _ _ rfl V2.out Try.underlying38 rfl (by kernel_rfl)) rfl ⟨pr, .slice (some ⟨gk, 0, none⟩) n cu, _, _, rfl, F2.out, KB2.out, ⟨by omega, by omega⟩, by omega, S2.out, G2.out⟩
  by_cases r4 : r = 4
  · subst r4
    clear r0 r1 r2 r3
    obtain ⟨y0, y1, f0, f1⟩ := var2_facts VW.out
    go_upto_region 13 with (at_builtin; refine list_appKK rfl _ _ rfl ks N gw gw gk n cu rfl rfl HN.out.symm OK.out (by omega) (by omega) (Nat.le_refl gw) HM.out ?_; intro g5 c5 x4 hF hG; have FX := hid (FK.setX (i := 1) (x := .slice (some ⟨g5, 0, none⟩) (n + n) c5) hF); have VW4 := hid (var_grown hG VW.out (fun e => NKW.out (Option.some.inj e).symm)); have VR4 := hid (var_grown hG VR.out (fun e => by have := Option.some.inj e; have := LQ.out; omega)); have S4 := hid (S.out.grown hG (fun e => by have := Option.some.inj e; have := LQ.out; omega) (fun b e => by have := Option.some.inj e; have := LQ.out; have := NV.out; omega)); have G4 := hid (grownNk G.out hG (fun b e => by have := Option.some.inj e; have := LQ.out; omega)); clear y0 y1 f0 f1 hF hG VW VR S G; obtain ⟨y0, y1, f0, f1⟩ := var2_facts VW4.out)
    clear y0 y1 f0 f1
    have VW := VW4
    have VR := VR4
    have S := S4
    have G := G4
    clear VW4 VR4 S4 G4
    have e1 := heap_setCell_same x4 gw 1 _ _ (.slice (some ⟨g5, 0, none⟩) (n + n) c5) VW.out
    have VY := hid (show (x4.setCell ⟨gw, 1, none⟩ (.slice (some ⟨g5, 0, none⟩) (n + n) c5)).heap[gw]? = some (.cells #[.int .i64 pr, .slice (some ⟨g5, 0, none⟩) (n + n) c5] 38) by simpa using e1)
    replace VR := hid (set1_otherk (i := 1) (x := .slice (some ⟨g5, 0, none⟩) (n + n) c5) NRW.out VR.out)
    replace S := hid (src_set (i := 1) (V := gw) S.out (fun e => NVW.out e.symm) (by have := LQ.out; have := NV.out; omega) (.slice (some ⟨g5, 0, none⟩) (n + n) c5))
    replace G := hid (grown_set (i := 1) (V := gw) G.out (by have := LQ.out; omega) (.slice (some ⟨g5, 0, none⟩) (n + n) c5))
    clear VW e1 HM OK
    have VW := VY
    clear VY
    generalize x4.setCell ⟨gw, 1, none⟩ (.slice (some ⟨g5, 0, none⟩) (n + n) c5) = x5 at *
    obtain ⟨y0, y1, -, -⟩ := var2_facts VW.out
    obtain ⟨u0, u1, z0, z1⟩ := var2_facts VR.out
    have V2 := hid (var2_set (x' := .int .i64 pr) (y' := .slice (some ⟨g5, 0, none⟩) (n + n) c5) VR.out)
    have F2 := hid (FK.ret (gr := gr) (x := .int .i64 pr) (y := .slice (some ⟨g5, 0, none⟩) (n + n) c5) FX.out (show gr < N by have := LQ.out; omega) (show w.heap.size ≤ N by have := LQ.out; omega))
    have S2 := hid (src_set (i := 1) (V := gr) (src_set (i := 0) (V := gr) S.out (fun e => NVR.out e.symm) (by have := LQ.out; have := NV.out; omega) (.int .i64 pr)) (fun e => NVR.out e.symm) (by have := LQ.out; have := NV.out; omega) (.slice (some ⟨g5, 0, none⟩) (n + n) c5))
    have G2 := hid (grown_set (i := 1) (V := gr) (grown_set (i := 0) (V := gr) G.out (by have := LQ.out; omega) (.int .i64 pr)) (by have := LQ.out; omega) (.slice (some ⟨g5, 0, none⟩) (n + n) c5))
    have KB2 := hid (kb_app KX.out.1 KX.out.2)
    clear S G
    go_wp2
    try simp only [Exit.inBlock, Exit.then]
    exact bodyPost_ret (v := .agg #[.int .i64 pr, .slice (some ⟨g5, 0, none⟩) (n + n) c5]) (results_cell_row rfl _ _ gr 38 _ _ _ rfl V2.out Try.underlying38 rfl (by kernel_rfl)) rfl ⟨pr, .slice (some ⟨g5, 0, none⟩) (n + n) c5, _, _, rfl, F2.out, KB2.out, ⟨by omega, by omega⟩, by omega, S2.out, G2.out⟩
    skip
  have e0 : (r == 0) = false := by simpa using r0
  have e1 : (r == 1) = false := by simpa using r1
  have e2 : (r == 2) = false := by simpa using r2
  have e3 : (r == 3) = false := by simpa using r3
  have e4 : (r == 4) = false := by simpa using r4
  clear r0 r1 r2 r3 r4
  obtain ⟨y0, y1, -, -⟩ := var2_facts VW.out
  obtain ⟨u0, u1, z0, z1⟩ := var2_facts VR.out
  have V2 := hid (var2_set (x' := .int .i64 pr) (y' := .slice (some ⟨gk, 0, none⟩) n cu) VR.out)
  have F2 := hid (FK.ret (gr := gr) (x := .int .i64 pr) (y := .slice (some ⟨gk, 0, none⟩) n cu) (fk_oks OK.out (Nat.le_refl gw)) (show gr < N by have := LQ.out; omega) (show w.heap.size ≤ N by have := LQ.out; omega))
  have S2 := hid (src_set (i := 1) (V := gr) (src_set (i := 0) (V := gr) S.out (fun e => NVR.out e.symm) (by have := LQ.out; have := NV.out; omega) (.int .i64 pr)) (fun e => NVR.out e.symm) (by have := LQ.out; have := NV.out; omega) (.slice (some ⟨gk, 0, none⟩) n cu))
  have G2 := hid (grown_set (i := 1) (V := gr) (grown_set (i := 0) (V := gr) G.out (by have := LQ.out; omega) (.int .i64 pr)) (by have := LQ.out; omega) (.slice (some ⟨gk, 0, none⟩) n cu))
  have KB2 := hid KX.out.1
  clear S G
  go_wp2
  try simp only [Exit.inBlock, Exit.then]
  exact bodyPost_ret (v := .agg #[.int .i64 pr, .slice (some ⟨gk, 0, none⟩) n cu]) (results_cell_row rfl _ _ gr 38 _ _ _ rfl V2.out Try.underlying38 rfl (by kernel_rfl)) rfl ⟨pr, .slice (some ⟨gk, 0, none⟩) n cu, _, _, rfl, F2.out, KB2.out, ⟨by omega, by omega⟩, by omega, S2.out, G2.out⟩
end Go.Proofs.Ytbfdbicddmffnab.W

namespace Go.Proofs.Ytbfdbicddmffnab.W
open Go.ChangeShapes Go.WideShapes Go.ChangeAt Go.RowKit
open Go.Proofs.Ytbfdbicddmffnab.M

theorem rd_piece {w : World} {b o n cap : Nat} {l : List Nat} (h : Rd w (.slice (some ⟨b, o, none⟩) n cap) l) (k t : Nat) (hk : k + t ≤ l.length) : Rd w (.slice (some ⟨b, o + k, none⟩) t (cap - k)) (sub l k t) := by
  obtain ⟨a, c, e, h1, h2, hc⟩ := h
  have hl := sub_len l k t hk
  cases e
  refine ⟨some ⟨b, o + k, none⟩, cap - k, by rw [hl], by omega, by omega, fun i hi => ?_⟩
  rw [hl] at hi
  obtain ⟨b', o', e', hcc⟩ := hc (k + i) (by omega)
  cases e'
  refine ⟨b, o + k, rfl, ?_⟩
  rw [Nat.add_assoc, hcc]
  simp [sub]
theorem sub_drop (l : List Nat) (k : Nat) (n : Nat) (h : k + n = l.length) : sub l k n = l.drop k := by
  unfold sub
  rw [List.take_of_length_le (by simp; omega)]
theorem sub_take (l : List Nat) (n : Nat) : sub l 0 n = l.take n := by simp [sub]
/-- s[k:] -/
theorem run_from (b o n c k : Nat) (hk : k ≤ n) (hc : k < c) (w : World) :
    (Instr.slice 22 (.slice (some ⟨b, o, none⟩) n c) (some (.int .i64 (k : Int))) none none).run Try.prog w = .ok (.slice (some ⟨b, o + k, none⟩) (n - k) (c - k)) w := by
  have hs : ∀ w : World, (sizeOf (Try.prog.elem 22)).run Try.prog w = .ok 1 w := fun _ => by kernel_rfl
  have h := run_slice_l (P := Try.prog) (t := 22) (a := some ⟨b, o, none⟩) (len := n) (cap := c) (w := w) (by kernel_rfl) .i64 (k : Int) (by omega) (by omega)
  rw [h, hs]
  simp [Result.andThen, sliced, Addr.add_lit, show ¬ c = k by omega]
/-- s[:k] -/
theorem run_upto (b o n c k : Nat) (hk : k ≤ c) (hc : 0 < c) (w : World) :
    (Instr.slice 22 (.slice (some ⟨b, o, none⟩) n c) none (some (.int .i64 (k : Int))) none).run Try.prog w = .ok (.slice (some ⟨b, o, none⟩) k c) w := by
  have hs : ∀ w : World, (sizeOf (Try.prog.elem 22)).run Try.prog w = .ok 1 w := fun _ => by kernel_rfl
  have h := run_slice_h (P := Try.prog) (t := 22) (a := some ⟨b, o, none⟩) (len := n) (cap := c) (w := w) (by kernel_rfl) .i64 (k : Int) (by omega) (by omega)
  rw [h, hs]
  simp [Result.andThen, sliced, Addr.add_lit, show ¬ c = 0 by omega]
/-- s[k:k+t] -/
theorem run_piece (b o n c k t : Nat) (hk : k + t ≤ c) (hc : k < c) (w : World) :
    (Instr.slice 22 (.slice (some ⟨b, o, none⟩) n c) (some (.int .i64 (k : Int))) (some (.int .i64 ((k + t : Nat) : Int))) none).run Try.prog w = .ok (.slice (some ⟨b, o + k, none⟩) t (c - k)) w := by
  have hs : ∀ w : World, (sizeOf (Try.prog.elem 22)).run Try.prog w = .ok 1 w := fun _ => by kernel_rfl
  have h := run_slice_lh (P := Try.prog) (t := 22) (a := some ⟨b, o, none⟩) (len := n) (cap := c) (w := w) (by kernel_rfl) .i64 .i64 (k : Int) ((k + t : Nat) : Int) (by omega) (by omega) (by omega)
  rw [h, hs]
  simp [Result.andThen, sliced, Addr.add_lit, show ¬ c = k by omega]
  omega
end Go.Proofs.Ytbfdbicddmffnab.W

namespace Go.Proofs.Ytbfdbicddmffnab.M
open Go.ChangeShapes Go.WideShapes Go.ChangeAt Go.RowKit
open Go.Proofs.Ytbfdbicddmffnab.W

theorem FB.ret {w : World} {lo lo' hi gr : Nat} {v x y : Value} {l : List Nat} (h : FB w lo hi v l) (hh : hi ≤ w.heap.size) (hr : gr < lo) (hl : lo' ≤ lo) :
    FB ((w.setCell ⟨gr, 0, none⟩ x).setCell ⟨gr, 1, none⟩ y) lo' ((w.setCell ⟨gr, 0, none⟩ x).setCell ⟨gr, 1, none⟩ y).heap.size v l :=
  ((h.set (.inl hr)).set (.inl hr)).mono hl (by simpa [World.setCell] using hh)
theorem owx_shape {w : World} {lo : Nat} {u : Value} {l : List Nat} (h : Owx w lo u l) (h0 : 0 < l.length) : ∃ g cap, u = .slice (some ⟨g, 0, none⟩) l.length cap ∧ lo ≤ g ∧ l.length ≤ cap := by
  obtain ⟨T, h⟩ := h
  rcases h.2 with ⟨rfl, e⟩ | ⟨g, cap, cur, rfl, hb, hg, hn, hm, hs, ht⟩
  · omega
  · exact ⟨g, cap, rfl, hb, hn⟩
end Go.Proofs.Ytbfdbicddmffnab.M
namespace Go.Proofs.Ytbfdbicddmffnab.W
open Go.ChangeShapes Go.WideShapes Go.ChangeAt Go.RowKit
open Go.Proofs.Ytbfdbicddmffnab.M

set_option maxHeartbeats 8000000 in
set_option maxRecDepth 100000 in
theorem l4s (w0 w : World) (g : Nat) (v : Value) (l : List Nat) (t : Nat) (h : Src w0 w g v l t) (ht : t ≤ 600000) (hl : l.length ≤ 1048576) :
    Calls Try.prog 79 #[.pointer (some ⟨g, 0, none⟩)] w fun e w' => ∃ (id' : Int) (u : Value) (bs : List Nat) (t' : Nat), e = .returned (.agg #[.int .i64 id', u]) ∧ FB w' w.heap.size w'.heap.size u bs ∧ (0 ≤ id' ∧ id' ≤ 300) ∧ bs.length ≤ 16 ∧ Byt bs ∧ t' ≤ t + 20 ∧ Src w0 w' g v l t' ∧ w.grownBy w' (some g) := by
  have GV := hid (show g < w.heap.size from var_lt h.cells)
  have NV := hid (show w0.heap.size ≤ w.heap.size from h.bel.size)
  have S := hid (h.later (below_alloc1 w (.cells #[.int .i64 0, .slice none 0 0] 40)))
  have G := hid (grown_of_below (below_alloc1 w (.cells #[.int .i64 0, .slice none 0 0] 40)) (some g))
  have VR := hid (heap_alloc_new w (.cells #[.int .i64 0, .slice none 0 0] 40))
  have SZ := hid (show (w.alloc (.cells #[.int .i64 0, .slice none 0 0] 40)).heap.size = w.heap.size + 1 by simp)
  clear h
  go_enter Try.func79, Try.ntmps79
  go_upto_region 1 with fail
  generalize w.alloc (.cells #[.int .i64 0, .slice none 0 0] 40) = x0 at *
  obtain ⟨gr, hg⟩ : ∃ g, g = w.heap.size := ⟨_, rfl⟩
  rw [← hg] at VR ⊢
  have NVR := hid (show gr ≠ g by have := GV.out; omega)
  have HG := hid hg
  clear hg
  have VL := hid (show Lst (x0.alloc (.cells #[.int .i64 1, .int .i64 2, .int .i64 3, .int .i64 4, .int .i64 6, .int .i64 9, .int .i64 255] 2)) x0.heap.size [1, 2, 3, 4, 6, 9, 255] from heap_alloc_new x0 (.cells #[.int .i64 1, .int .i64 2, .int .i64 3, .int .i64 4, .int .i64 6, .int .i64 9, .int .i64 255] 2))
  have hA := below_alloc1 x0 (.cells #[.int .i64 1, .int .i64 2, .int .i64 3, .int .i64 4, .int .i64 6, .int .i64 9, .int .i64 255] 2)
  have NG := hid (show x0.heap.size ≠ g by have := var_lt S.out.cells; omega)
  replace S := hid (S.out.later hA)
  replace VR := hid (var_below hA VR.out)
  replace G := hid (grown_trans G.out (grown_of_below hA (some g)))
  clear hA
  go_wp2_with fail
  refine (pick' w0 _ g x0.heap.size 7 v l _ [1, 2, 3, 4, 6, 9, 255] S.out (by omega) hl VL.out NG.out rfl (by omega) (by omega)).mono ?_
  rintro e x1 ⟨id0, hid0, rfl, hS, hG⟩
  replace S := hid hS
  replace VR := hid (var_grown hG VR.out (fun e => by have := Option.some.inj e; have := NVR.out; omega))
  replace G := hid (grown_trans G.out hG)
  clear hS hG
  clear VL NG
  have hid2 : 0 ≤ id0 ∧ id0 ≤ 300 := by simp at hid0; omega
  clear hid0
  have LVR := hid (var_lt VR.out)
  go_wp2_with fail
  refine (l4y id0 _).mono ?_
  rintro e x2 ⟨ub, r, rfl, hO, hr, hy, hM⟩
  obtain ⟨N, hN⟩ : ∃ q, q = x1.heap.size := ⟨_, rfl⟩
  rw [← hN] at hO
  obtain ⟨gb, cb, rfl, hb1, hb2⟩ := owx_shape hO.x (by omega)
  have hb3 := (hO.x.lt gb rfl).2
  rw [hr] at hb2 hO ⊢
  obtain ⟨gw, hgw⟩ : ∃ q, q = x2.heap.size := ⟨_, rfl⟩
  have LQ := hid (show gr = w.heap.size ∧ g < gr ∧ gr < N ∧ N ≤ gw by have := GV.out; have := LVR.out; have := HG.out; have := hM.size; omega)
  have GN := hid (show g < N by have := LQ.out; omega)
  have NVW := hid (show gw ≠ g by have := LQ.out; omega)
  have NRW := hid (show gr ≠ gw by have := LQ.out; omega)
  have FX := hid (fb_own hO.x)
  have KB := hid (show r.length = 16 ∧ Byt r ∧ 16 ≤ cb from ⟨hr, hy, hb2⟩)
  replace S := hid (S.out.later hM)
  replace VR := hid (var_below hM VR.out)
  replace G := hid (grown_trans G.out (grown_of_below hM (some g)))
  have hh := hid hgw
  rw [← hgw] at FX
  clear hO hr hy hM hN hb1 hb2 hb3 hgw LVR HG SZ
  have VW := hid (heap_alloc_new x2 (.cells #[.int .i64 id0, .slice (some ⟨gb, 0, none⟩) 16 cb] 40))
  have hA := below_alloc1 x2 (.cells #[.int .i64 id0, .slice (some ⟨gb, 0, none⟩) 16 cb] 40)
  have HM := hid (show x2.heap.size < (x2.alloc (.cells #[.int .i64 id0, .slice (some ⟨gb, 0, none⟩) 16 cb] 40)).heap.size by simp)
  replace S := hid (S.out.later hA)
  replace FX := hid (FX.out.below hA (Nat.le_of_eq hh.out))
  replace VR := hid (var_below hA VR.out)
  replace G := hid (grown_trans G.out (grown_of_below hA (some g)))
  clear hA
  obtain ⟨y0, y1, -, -⟩ := var2_facts VW.out
  go_wp2_with fail
  clear y0 y1
  generalize x2.alloc (.cells #[.int .i64 id0, .slice (some ⟨gb, 0, none⟩) 16 cb] 40) = x3 at *
  rw [← hh.out] at VW HM ⊢
  clear hh
  refine (next w0 x3 g v l _ 10 S.out (by omega) (by omega) hl).mono ?_
  rintro e x4 ⟨q, rfl, hq, hS, hG⟩
  replace S := hid hS
  replace FX := hid (FX.out.grownG hG GN.out (Nat.le_of_lt HM.out))
  replace VR := hid (var_grown hG VR.out (fun e => by have := Option.some.inj e; have := NVR.out; omega))
  replace VW := hid (var_grown hG VW.out (fun e => by have := Option.some.inj e; have := NVW.out; omega))
  replace HM := hid (Nat.lt_of_lt_of_le HM.out hG.size)
  replace G := hid (grown_trans G.out hG)
  clear hS hG
  clear hq
  by_cases r0 : q = 0
  · subst r0
    have VL := hid (show Lst (x4.alloc (.cells #[.int .i64 0, .int .i64 256] 2)) x4.heap.size [0, 256] from heap_alloc_new x4 (.cells #[.int .i64 0, .int .i64 256] 2))
    have hA := below_alloc1 x4 (.cells #[.int .i64 0, .int .i64 256] 2)
    have NG := hid (show x4.heap.size ≠ g by have := var_lt S.out.cells; omega)
    replace S := hid (S.out.later hA)
    replace FX := hid (FX.out.below hA (Nat.le_of_lt HM.out))
    replace VR := hid (var_below hA VR.out)
    replace VW := hid (var_below hA VW.out)
    replace HM := hid (Nat.lt_of_lt_of_le HM.out hA.size)
    replace G := hid (grown_trans G.out (grown_of_below hA (some g)))
    clear hA
    go_wp2_with fail
    refine (pick' w0 _ g x4.heap.size 2 v l _ [0, 256] S.out (by omega) hl VL.out NG.out rfl (by omega) (by omega)).mono ?_
    rintro e x5 ⟨y, hy, rfl, hS, hG⟩
    replace S := hid hS
    replace FX := hid (FX.out.grownG hG GN.out (Nat.le_of_lt HM.out))
    replace VR := hid (var_grown hG VR.out (fun e => by have := Option.some.inj e; have := NVR.out; omega))
    replace VW := hid (var_grown hG VW.out (fun e => by have := Option.some.inj e; have := NVW.out; omega))
    replace HM := hid (Nat.lt_of_lt_of_le HM.out hG.size)
    replace G := hid (grown_trans G.out hG)
    clear hS hG
    clear VL NG
    have hy2 : 0 ≤ y ∧ y ≤ 300 := by simp at hy; omega
    clear hy
    obtain ⟨y0, y1, f0, f1⟩ := var2_facts VW.out
    go_upto_region 8 with fail
    clear y0 y1 f0 f1
    have e1 := heap_setCell_same x5 gw 0 _ _ (.int .i64 y) VW.out
    have VY := hid (show (x5.setCell ⟨gw, 0, none⟩ (.int .i64 y)).heap[gw]? = some (.cells #[.int .i64 y, .slice (some ⟨gb, 0, none⟩) 16 cb] 40) by simpa using e1)
    replace VR := hid (set1_otherk (i := 0) (x := .int .i64 y) NRW.out VR.out)
    replace S := hid (src_set (i := 0) (V := gw) S.out (fun e => NVW.out e.symm) (by have := LQ.out; have := NV.out; omega) (.int .i64 y))
    replace G := hid (grown_set (i := 0) (V := gw) G.out (by have := LQ.out; omega) (.int .i64 y))
    replace FX := hid (FX.out.set (i := 0) (x := .int .i64 y) (.inr (Nat.le_refl gw)))
    replace HM := hid (show gw < (x5.setCell ⟨gw, 0, none⟩ (.int .i64 y)).heap.size by have := HM.out; simpa [World.setCell] using this)
    clear VW e1
    have VW := VY
    clear VY
    generalize x5.setCell ⟨gw, 0, none⟩ (.int .i64 y) = x6 at *
    obtain ⟨y0, y1, -, -⟩ := var2_facts VW.out
    obtain ⟨u0, u1, z0, z1⟩ := var2_facts VR.out
    have V2 := hid (var2_set (x' := .int .i64 y) (y' := .slice (some ⟨gb, 0, none⟩) 16 cb) VR.out)
    have F2 := hid (FB.ret (gr := gr) (x := .int .i64 y) (y := .slice (some ⟨gb, 0, none⟩) 16 cb) FX.out (Nat.le_of_lt HM.out) (show gr < N by have := LQ.out; omega) (show w.heap.size ≤ N by have := LQ.out; omega))
    have S2 := hid (src_set (i := 1) (V := gr) (src_set (i := 0) (V := gr) S.out (fun e => NVR.out e.symm) (by have := LQ.out; have := NV.out; omega) (.int .i64 y)) (fun e => NVR.out e.symm) (by have := LQ.out; have := NV.out; omega) (.slice (some ⟨gb, 0, none⟩) 16 cb))
    have G2 := hid (grown_set (i := 1) (V := gr) (grown_set (i := 0) (V := gr) G.out (by have := LQ.out; omega) (.int .i64 y)) (by have := LQ.out; omega) (.slice (some ⟨gb, 0, none⟩) 16 cb))
    clear S G
    go_wp2
    try simp only [Exit.inBlock, Exit.then]
    exact bodyPost_ret (v := .agg #[.int .i64 y, .slice (some ⟨gb, 0, none⟩) 16 cb]) (results_cell_row rfl _ _ gr 40 _ _ _ rfl V2.out Try.underlying40 rfl (by kernel_rfl)) rfl ⟨y, .slice (some ⟨gb, 0, none⟩) 16 cb, r, _, rfl, F2.out, hy2, by rw [KB.out.1]; omega, KB.out.2.1, by omega, S2.out, G2.out⟩
  by_cases r1 : q = 1
  · subst r1
    clear r0
    have hcb := KB.out.2.2
    obtain ⟨y0, y1, f0, f1⟩ := var2_facts VW.out
    go_upto_region 8 with fail
    clear y0 y1 f0 f1
    replace FX := hid (show FB x4 N gw (.slice (some ⟨gb, 1, none⟩) 15 (cb - 1)) (r.drop 1) from fun w2 k => by have z := rd_piece (FX.out w2 k) 1 15 (by have := KB.out.1; omega); rw [sub_drop r 1 15 (by rw [KB.out.1])] at z; exact z)
    have e1 := heap_setCell_same x4 gw 1 _ _ (.slice (some ⟨gb, 1, none⟩) 15 (cb - 1)) VW.out
    have VY := hid (show (x4.setCell ⟨gw, 1, none⟩ (.slice (some ⟨gb, 1, none⟩) 15 (cb - 1))).heap[gw]? = some (.cells #[.int .i64 id0, .slice (some ⟨gb, 1, none⟩) 15 (cb - 1)] 40) by simpa using e1)
    replace VR := hid (set1_otherk (i := 1) (x := .slice (some ⟨gb, 1, none⟩) 15 (cb - 1)) NRW.out VR.out)
    replace S := hid (src_set (i := 1) (V := gw) S.out (fun e => NVW.out e.symm) (by have := LQ.out; have := NV.out; omega) (.slice (some ⟨gb, 1, none⟩) 15 (cb - 1)))
    replace G := hid (grown_set (i := 1) (V := gw) G.out (by have := LQ.out; omega) (.slice (some ⟨gb, 1, none⟩) 15 (cb - 1)))
    replace FX := hid (FX.out.set (i := 1) (x := .slice (some ⟨gb, 1, none⟩) 15 (cb - 1)) (.inr (Nat.le_refl gw)))
    replace HM := hid (show gw < (x4.setCell ⟨gw, 1, none⟩ (.slice (some ⟨gb, 1, none⟩) 15 (cb - 1))).heap.size by have := HM.out; simpa [World.setCell] using this)
    clear VW e1
    have VW := VY
    clear VY
    generalize x4.setCell ⟨gw, 1, none⟩ (.slice (some ⟨gb, 1, none⟩) 15 (cb - 1)) = x6 at *
    obtain ⟨y0, y1, -, -⟩ := var2_facts VW.out
    obtain ⟨u0, u1, z0, z1⟩ := var2_facts VR.out
    have V2 := hid (var2_set (x' := .int .i64 id0) (y' := .slice (some ⟨gb, 1, none⟩) 15 (cb - 1)) VR.out)
    have F2 := hid (FB.ret (gr := gr) (x := .int .i64 id0) (y := .slice (some ⟨gb, 1, none⟩) 15 (cb - 1)) FX.out (Nat.le_of_lt HM.out) (show gr < N by have := LQ.out; omega) (show w.heap.size ≤ N by have := LQ.out; omega))
    have S2 := hid (src_set (i := 1) (V := gr) (src_set (i := 0) (V := gr) S.out (fun e => NVR.out e.symm) (by have := LQ.out; have := NV.out; omega) (.int .i64 id0)) (fun e => NVR.out e.symm) (by have := LQ.out; have := NV.out; omega) (.slice (some ⟨gb, 1, none⟩) 15 (cb - 1)))
    have G2 := hid (grown_set (i := 1) (V := gr) (grown_set (i := 0) (V := gr) G.out (by have := LQ.out; omega) (.int .i64 id0)) (by have := LQ.out; omega) (.slice (some ⟨gb, 1, none⟩) 15 (cb - 1)))
    clear S G
    go_wp2
    try simp only [Exit.inBlock, Exit.then]
    exact bodyPost_ret (v := .agg #[.int .i64 id0, .slice (some ⟨gb, 1, none⟩) 15 (cb - 1)]) (results_cell_row rfl _ _ gr 40 _ _ _ rfl V2.out Try.underlying40 rfl (by kernel_rfl)) rfl ⟨id0, .slice (some ⟨gb, 1, none⟩) 15 (cb - 1), (r.drop 1), _, rfl, F2.out, hid2, by rw [List.length_drop, KB.out.1]; omega, (fun x hx => KB.out.2.1 x (List.mem_of_mem_drop hx)), by omega, S2.out, G2.out⟩
  have e0 : (q == 0) = false := by simpa using r0
  have e1 : (q == 1) = false := by simpa using r1
  clear r0 r1
  obtain ⟨y0, y1, -, -⟩ := var2_facts VW.out
  obtain ⟨u0, u1, z0, z1⟩ := var2_facts VR.out
  have V2 := hid (var2_set (x' := .int .i64 id0) (y' := .slice (some ⟨gb, 0, none⟩) 16 cb) VR.out)
  have F2 := hid (FB.ret (gr := gr) (x := .int .i64 id0) (y := .slice (some ⟨gb, 0, none⟩) 16 cb) FX.out (Nat.le_of_lt HM.out) (show gr < N by have := LQ.out; omega) (show w.heap.size ≤ N by have := LQ.out; omega))
  have S2 := hid (src_set (i := 1) (V := gr) (src_set (i := 0) (V := gr) S.out (fun e => NVR.out e.symm) (by have := LQ.out; have := NV.out; omega) (.int .i64 id0)) (fun e => NVR.out e.symm) (by have := LQ.out; have := NV.out; omega) (.slice (some ⟨gb, 0, none⟩) 16 cb))
  have G2 := hid (grown_set (i := 1) (V := gr) (grown_set (i := 0) (V := gr) G.out (by have := LQ.out; omega) (.int .i64 id0)) (by have := LQ.out; omega) (.slice (some ⟨gb, 0, none⟩) 16 cb))
  clear S G
  go_wp2
  try simp only [Exit.inBlock, Exit.then]
  exact bodyPost_ret (v := .agg #[.int .i64 id0, .slice (some ⟨gb, 0, none⟩) 16 cb]) (results_cell_row rfl _ _ gr 40 _ _ _ rfl V2.out Try.underlying40 rfl (by kernel_rfl)) rfl ⟨id0, .slice (some ⟨gb, 0, none⟩) 16 cb, r, _, rfl, F2.out, hid2, by rw [KB.out.1]; omega, KB.out.2.1, by omega, S2.out, G2.out⟩
end Go.Proofs.Ytbfdbicddmffnab.W

namespace Go.Proofs.Ytbfdbicddmffnab.W
open Go.ChangeShapes Go.WideShapes Go.ChangeAt Go.RowKit
open Go.Proofs.Ytbfdbicddmffnab.M

theorem wbelR {w x0 x1 : World} {gr : Nat} {x y : Value} (h0 : Below w.heap.size w x0) (h1 : Below x0.heap.size x0 x1) (hg : w.heap.size ≤ gr) : Below w.heap.size w ((x1.setCell ⟨gr, 0, none⟩ x).setCell ⟨gr, 1, none⟩ y) :=
  ((h0.trans (h1.mono h0.size)).setCell (p := ⟨gr, 0, none⟩) hg x).setCell (p := ⟨gr, 1, none⟩) hg y
theorem wbelR2 {w x1 : World} {gr : Nat} {x y : Value} (h : Below w.heap.size w x1) (hg : w.heap.size ≤ gr) : Below w.heap.size w ((x1.setCell ⟨gr, 0, none⟩ x).setCell ⟨gr, 1, none⟩ y) :=
  (h.setCell (p := ⟨gr, 0, none⟩) hg x).setCell (p := ⟨gr, 1, none⟩) hg y
theorem set2_otherR {w : World} {g k : Nat} {x y : Value} {o : Obj} (hne : g ≠ k) (h : w.heap[g]? = some o) : ((w.setCell ⟨k, 0, none⟩ x).setCell ⟨k, 1, none⟩ y).heap[g]? = some o := set1_otherk hne (set1_otherk hne h)
set_option maxHeartbeats 8000000 in
set_option maxRecDepth 100000 in
theorem drNr (v : Value) (l : List Nat) (w : World) (h : Rd w v l) (y : Byt l) (hl : l.length ≤ 1048576) :
    Calls Try.prog 37 #[v] w fun e w' => ∃ (id' : Int) (u : Value) (bs : List Nat), e = .returned (.agg #[.int .i64 id', u]) ∧ Rd w' u bs ∧ (0 ≤ id' ∧ id' ≤ 300) ∧ bs.length ≤ 16 ∧ Byt bs ∧ Below w.heap.size w w' := by
  have RC := hid h
  obtain ⟨q, cap, rfl, -, -, -⟩ := h.parts
  clear h
  have VR := hid (heap_alloc_new w (.cells #[.int .i64 0, .slice none 0 0] 40))
  have B0 := hid (below_alloc1 w (.cells #[.int .i64 0, .slice none 0 0] 40))
  go_enter Try.func37, Try.ntmps37
  go_wp2_with fail
  generalize w.alloc (.cells #[.int .i64 0, .slice none 0 0] 40) = x0 at *
  obtain ⟨gr, hg⟩ : ∃ g, g = w.heap.size := ⟨_, rfl⟩
  rw [← hg] at VR ⊢
  have GR := hid (show w.heap.size ≤ gr by omega)
  clear hg
  refine (source _ l x0 (RC.out.below B0.out) y).mono ?_
  rintro e x1 ⟨rfl, hS⟩
  have S := hid hS
  have LX := hid (var_lt VR.out)
  replace VR := hid (var_below hS.bel VR.out)
  clear hS
  obtain ⟨gs, hgs⟩ : ∃ q, q = x0.heap.size := ⟨_, rfl⟩
  rw [← hgs] at S LX ⊢
  have NVR := hid (show gr ≠ gs by have := LX.out; omega)
  clear hgs
  go_wp2_with fail
  refine (l4s x0 x1 gs _ l 0 S.out (by omega) hl).mono ?_
  rintro e x2 ⟨id', u, bs, t', rfl, hF, hi, hb, hy, -, hS2, hG⟩
  obtain ⟨pu, cu, rfl, -, -, -⟩ := hF.rd.parts
  have GV := hid (show gs < x1.heap.size from var_lt S.out.cells)
  have LR := hid (show gr < x1.heap.size by have := LX.out; have := GV.out; omega)
  have FX := hid ((hF.set (i := 0) (x := .int .i64 id') (.inl LR.out)).set (i := 1) (x := .slice pu bs.length cu) (.inl LR.out))
  have KI := hid (And.intro hi (And.intro hb hy))
  replace VR := hid (var_grown hG VR.out (fun e => by have := Option.some.inj e; have := NVR.out; omega))
  have SX := hid (wbelR B0.out hS2.bel GR.out (x := .int .i64 id') (y := .slice pu bs.length cu))
  clear hF hi hb hy hS2 hG S
  obtain ⟨u0, u1, z0, z1⟩ := var2_facts VR.out
  have V2 := hid (var2_set (x' := .int .i64 id') (y' := .slice pu bs.length cu) VR.out)
  go_wp2
  exact bodyPost_ret (v := .agg #[.int .i64 id', .slice pu bs.length cu]) (results_cell_row rfl _ _ gr 40 _ _ _ rfl V2.out Try.underlying40 rfl (by kernel_rfl)) rfl ⟨id', _, bs, rfl, FX.out.rd, KI.out.1, KI.out.2.1, KI.out.2.2, SX.out⟩
end Go.Proofs.Ytbfdbicddmffnab.W

namespace Go.Proofs.Ytbfdbicddmffnab.W
open Go.ChangeShapes Go.WideShapes Go.ChangeAt Go.RowKit
open Go.Proofs.Ytbfdbicddmffnab.M

theorem results_ctc {P : Program} {fn : Func} {p q r : Tmp} {ty ty' : TypeId} (h : fn.results = #[.cell p ty, .tmp q, .cell r ty']) (tmps : Array Value) (w : World) (x : Value) (g g' : Nat) (t t' : TypeId) (cs cs' : Array Value) (fr fr' : Nat × Nat) (d d' : TypeDesc)
    (hp : tmps.getD p undef = .pointer (some ⟨g, 0, none⟩)) (hx : tmps.getD q undef = x) (hq : tmps.getD r undef = .pointer (some ⟨g', 0, none⟩)) (hg : w.heap[g]? = some (.cells cs t fr)) (hg' : w.heap[g']? = some (.cells cs' t' fr'))
    (hu : P.underlying ty = some d) (hd : (match d with | .struct _ | .array _ _ => true | _ => false) = true) (hi : (P.info? ty).map (·.size) = some cs.size)
    (hu' : P.underlying ty' = some d') (hd' : (match d' with | .struct _ | .array _ _ => true | _ => false) = true) (hi' : (P.info? ty').map (·.size) = some cs'.size) :
    (results fn tmps).run P w = .ok (.tuple #[.agg cs, x, .agg cs']) w := by
  subst hx
  have hp' : tmps[p]?.getD undef = .pointer (some ⟨g, 0, none⟩) := by simpa using hp
  have hq' : tmps[r]?.getD undef = .pointer (some ⟨g', 0, none⟩) := by simpa using hq
  simp [results, h, hp', hq', asAddr, run_loadVar_row w g t ty cs fr d hg hu hd hi, run_loadVar_row w g' t' ty' cs' fr' d' hg' hu' hd' hi']
set_option maxHeartbeats 8000000 in
set_option maxRecDepth 100000 in
theorem drTr (v : Value) (l : List Nat) (w : World) (h : Rd w v l) (y : Byt l) (hl : l.length ≤ 1048576) :
    Calls Try.prog 39 #[v] w fun e w' => ∃ (pr op id' : Int) (u ub : Value) (ks : List (Int × List Nat)) (bs : List Nat), e = .returned (.tuple #[.agg #[.int .i64 pr, u], .int .i64 op, .agg #[.int .i64 id', ub]]) ∧ RdK w' u ks ∧ Rd w' ub bs ∧ KB ks ∧ (0 ≤ pr ∧ pr ≤ 300) ∧ (0 ≤ op ∧ op ≤ 4) ∧ (0 ≤ id' ∧ id' ≤ 300) ∧ (bs.length ≤ 16 ∧ Byt bs) ∧ Below w.heap.size w w' := by
  have RC := hid h
  obtain ⟨q, cap, rfl, -, -, -⟩ := h.parts
  clear h
  have VR := hid (heap_alloc2_old w (.cells #[.int .i64 0, .slice none 0 0] 38) (.cells #[.int .i64 0, .slice none 0 0] 40))
  have VK := hid (heap_alloc2_new w (.cells #[.int .i64 0, .slice none 0 0] 38) (.cells #[.int .i64 0, .slice none 0 0] 40))
  have B0 := hid (below_alloc2 w (.cells #[.int .i64 0, .slice none 0 0] 38) (.cells #[.int .i64 0, .slice none 0 0] 40))
  go_enter Try.func39, Try.ntmps39
  go_wp2_with fail
  generalize (w.alloc (.cells #[.int .i64 0, .slice none 0 0] 38)).alloc (.cells #[.int .i64 0, .slice none 0 0] 40) = x0 at *
  obtain ⟨gk, hgk⟩ : ∃ g, g = w.heap.size + 1 := ⟨_, rfl⟩
  rw [← hgk] at VK ⊢
  obtain ⟨gr, hgr⟩ : ∃ g, g = w.heap.size := ⟨_, rfl⟩
  rw [← hgr] at VR ⊢
  have GG := hid (show w.heap.size ≤ gr ∧ w.heap.size ≤ gk ∧ gr ≠ gk by omega)
  clear hgk hgr
  refine (source _ l x0 (RC.out.below B0.out) y).mono ?_
  rintro e x1 ⟨rfl, hS⟩
  have S := hid hS
  have LX := hid (show gr < x0.heap.size ∧ gk < x0.heap.size from ⟨var_lt VR.out, var_lt VK.out⟩)
  replace VR := hid (var_below hS.bel VR.out)
  replace VK := hid (var_below hS.bel VK.out)
  clear hS
  obtain ⟨gs, hgs⟩ : ∃ q, q = x0.heap.size := ⟨_, rfl⟩
  rw [← hgs] at S LX ⊢
  have NVR := hid (show gr ≠ gs by have := LX.out; omega)
  have NVK := hid (show gk ≠ gs by have := LX.out; omega)
  have GS := hid hgs
  clear hgs
  go_wp2_with fail
  refine (l4b x0 x1 gs _ l 0 S.out (by omega) hl).mono ?_
  rintro e x2 ⟨pr, u, ks, t1, rfl, hF, hKB, hpr, htt, hS, hG⟩
  obtain ⟨pu, cu, rfl, -, -, -⟩ := hF.rd.parts
  have GV := hid (show gs < x1.heap.size from var_lt S.out.cells)
  obtain ⟨N, hN⟩ : ∃ q, q = x1.heap.size := ⟨_, rfl⟩
  obtain ⟨M, hM⟩ : ∃ q, q = x2.heap.size := ⟨_, rfl⟩
  rw [← hN, ← hM] at hF
  have LQ := hid (show gr < N ∧ gk < N ∧ gs < N by have := LX.out; have := GV.out; omega)
  have HM := hid (Nat.le_of_eq hM)
  have FX := hid hF
  have KX := hid (And.intro hKB hpr)
  replace VR := hid (var_grown hG VR.out (fun e => by have := Option.some.inj e; have := NVR.out; omega))
  replace VK := hid (var_grown hG VK.out (fun e => by have := Option.some.inj e; have := NVK.out; omega))
  replace S := hid hS
  clear hF hKB hpr hS hG hN hM GV
  have VW := hid (heap_alloc_new x2 (.cells #[.int .i64 pr, .slice pu ks.length cu] 38))
  have hA := below_alloc1 x2 (.cells #[.int .i64 pr, .slice pu ks.length cu] 38)
  have LV := hid (show gs < x2.heap.size ∧ gr < x2.heap.size ∧ gk < x2.heap.size from ⟨var_lt S.out.cells, var_lt VR.out, var_lt VK.out⟩)
  have QHM := hid HM.out
  replace S := hid (S.out.later hA)
  replace FX := hid (FX.out.below hA HM.out)
  replace VR := hid (var_below hA VR.out)
  replace VK := hid (var_below hA VK.out)
  replace HM := hid (Nat.le_trans HM.out hA.size)
  clear hA
  obtain ⟨y0, y1, -, -⟩ := var2_facts VW.out
  go_upto_region 3 with fail
  clear y0 y1
  generalize x2.alloc (.cells #[.int .i64 pr, .slice pu ks.length cu] 38) = x3 at *
  obtain ⟨gw, hg⟩ : ∃ g, g = x2.heap.size := ⟨_, rfl⟩
  rw [← hg] at VW LV  QHM ⊢
  clear hg
  have NVW := hid (show gw ≠ gs by have := LV.out; omega)
  have GW := hid (show gr < gw ∧ gk < gw ∧ M ≤ gw by have := LV.out; have := QHM.out; omega)
  clear LV QHM
  have VL := hid (show Lst (x3.alloc (.cells #[.int .i64 1, .int .i64 2, .int .i64 3, .int .i64 1, .int .i64 2, .int .i64 3, .int .i64 0, .int .i64 4] 2)) x3.heap.size [1, 2, 3, 1, 2, 3, 0, 4] from heap_alloc_new x3 (.cells #[.int .i64 1, .int .i64 2, .int .i64 3, .int .i64 1, .int .i64 2, .int .i64 3, .int .i64 0, .int .i64 4] 2))
  have hA := below_alloc1 x3 (.cells #[.int .i64 1, .int .i64 2, .int .i64 3, .int .i64 1, .int .i64 2, .int .i64 3, .int .i64 0, .int .i64 4] 2)
  have NG := hid (show x3.heap.size ≠ gs by have := var_lt S.out.cells; omega)
  replace S := hid (S.out.later hA)
  replace FX := hid (FX.out.below hA HM.out)
  replace VR := hid (var_below hA VR.out)
  replace VK := hid (var_below hA VK.out)
  replace VW := hid (var_below hA VW.out)
  replace HM := hid (Nat.le_trans HM.out hA.size)
  clear hA
  go_wp2_with fail
  refine (pick' x0 _ gs x3.heap.size 8 _ l _ [1, 2, 3, 1, 2, 3, 0, 4] S.out (by omega) hl VL.out NG.out rfl (by omega) (by omega)).mono ?_
  rintro e x4 ⟨op, hop, rfl, hS, hG⟩
  replace S := hid hS
  replace FX := hid (FX.out.grownG hG LQ.out.2.2 HM.out)
  replace VR := hid (var_grown hG VR.out (fun e => by have := Option.some.inj e; have := NVR.out; omega))
  replace VK := hid (var_grown hG VK.out (fun e => by have := Option.some.inj e; have := NVK.out; omega))
  replace VW := hid (var_grown hG VW.out (fun e => by have := Option.some.inj e; have := NVW.out; omega))
  replace HM := hid (Nat.le_trans HM.out hG.size)
  clear hS hG
  clear VL NG
  have hop2 : 0 ≤ op ∧ op ≤ 4 := by simp at hop; omega
  clear hop
  go_wp2_with fail
  refine (l4s x0 x4 gs _ l _ S.out (by omega) hl).mono ?_
  rintro e x5 ⟨id0, ub, bs, t2, rfl, hF, hi, hb, hy, htt2, hS, hG⟩
  obtain ⟨pb, cb, rfl, -, -, -⟩ := hF.rd.parts
  have LN := hid (show gs < x4.heap.size from var_lt S.out.cells)
  have LZ := hid (show gr < x4.heap.size ∧ gk < x4.heap.size ∧ gw < x4.heap.size from ⟨var_lt VR.out, var_lt VK.out, var_lt VW.out⟩)
  obtain ⟨N2, hN2⟩ : ∃ q, q = x4.heap.size := ⟨_, rfl⟩
  obtain ⟨M2, hM2⟩ : ∃ q, q = x5.heap.size := ⟨_, rfl⟩
  rw [← hN2, ← hM2] at hF
  rw [← hN2] at LN LZ
  have HM2 := hid (Nat.le_of_eq hM2)
  have FY := hid hF
  have KY := hid (And.intro hi (And.intro hb hy))
  replace S := hid hS
  replace FX := hid (FX.out.grownG hG LQ.out.2.2 HM.out)
  replace VR := hid (var_grown hG VR.out (fun e => by have := Option.some.inj e; have := NVR.out; omega))
  replace VK := hid (var_grown hG VK.out (fun e => by have := Option.some.inj e; have := NVK.out; omega))
  replace VW := hid (var_grown hG VW.out (fun e => by have := Option.some.inj e; have := NVW.out; omega))
  replace HM := hid (Nat.le_trans HM.out hG.size)
  clear hS hG
  clear hF hi hb hy hN2 hM2
  have VX := hid (heap_alloc_new x5 (.cells #[.int .i64 id0, .slice pb bs.length cb] 40))
  have hA := below_alloc1 x5 (.cells #[.int .i64 id0, .slice pb bs.length cb] 40)
  have LV := hid (show gs < x5.heap.size ∧ gr < x5.heap.size ∧ gk < x5.heap.size from ⟨var_lt S.out.cells, var_lt VR.out, var_lt VK.out⟩)
  have LW := hid (var_lt VW.out)
  have QHM := hid HM.out
  have QHM2 := hid HM2.out
  replace S := hid (S.out.later hA)
  replace FX := hid (FX.out.below hA HM.out)
  replace FY := hid (FY.out.below hA HM2.out)
  replace VR := hid (var_below hA VR.out)
  replace VK := hid (var_below hA VK.out)
  replace VW := hid (var_below hA VW.out)
  replace HM := hid (Nat.le_trans HM.out hA.size)
  replace HM2 := hid (Nat.le_trans HM2.out hA.size)
  clear hA
  obtain ⟨y0, y1, -, -⟩ := var2_facts VX.out
  go_upto_region 5 with fail
  clear y0 y1
  generalize x5.alloc (.cells #[.int .i64 id0, .slice pb bs.length cb] 40) = x6 at *
  obtain ⟨gx, hg⟩ : ∃ g, g = x5.heap.size := ⟨_, rfl⟩
  rw [← hg] at VX LV LW QHM QHM2 ⊢
  clear hg
  have NVX := hid (show gx ≠ gs by have := LV.out; omega)
  have BG := hid (show x0.heap.size ≤ gx by have := LV.out; have := GS.out; omega)
  have GX := hid (show gr < gx ∧ gk < gx ∧ gw < gx ∧ M ≤ gx ∧ M2 ≤ gx by have := LV.out; have := LW.out; have := QHM.out; have := QHM2.out; omega)
  clear LV LW QHM QHM2
  by_cases ho : op = 1
  · subst ho
    go_wp2_with fail
    obtain ⟨y0, y1, -, -⟩ := var2_facts VW.out
    obtain ⟨v0, v1, -, -⟩ := var2_facts VX.out
    skip
    refine wp_region_held_drew (S := fun w' => (w'.cell? ⟨gw, 0, none⟩ = some (.int .i64 pr) ∧ w'.cell? ⟨gw, 1, none⟩ = some (.slice pu ks.length cu)) ∧ (w'.cell? ⟨gx, 0, none⟩ = some (.int .i64 id0) ∧ w'.cell? ⟨gx, 1, none⟩ = some (.slice pb bs.length cb))) (by kernel_rfl) ⟨⟨y0, y1⟩, v0, v1⟩ (fun hH => ?_)
    clear y0 y1 v0 v1
    have VWd := hid (show x6.drew.heap[gw]? = some (.cells #[.int .i64 pr, .slice pu ks.length cu] 38) from VW.out)
    have VXd := hid (show x6.drew.heap[gx]? = some (.cells #[.int .i64 id0, .slice pb bs.length cb] 40) from VX.out)
    have VRd := hid (show x6.drew.heap[gr]? = some (.cells #[.int .i64 0, .slice none 0 0] 38) from VR.out)
    have VKd := hid (show x6.drew.heap[gk]? = some (.cells #[.int .i64 0, .slice none 0 0] 40) from VK.out)
    have FXd := hid (show FK x6.drew N M M (.slice pu ks.length cu) ks from FX.out.go (fun _ _ _ _ => rfl))
    have FYd := hid (show FB x6.drew N2 M2 (.slice pb bs.length cb) bs from FY.out.go (fun _ _ _ => rfl))
    have Bd := hid (show Below x0.heap.size x0 x6.drew from S.out.bel.drew)
    clear VW VX VR VK FX FY S
    generalize x6.drew = x at *
    have VW := VWd
    have VX := VXd
    have VR := VRd
    have VK := VKd
    have FX := FXd
    have FY := FYd
    clear VWd VXd VRd VKd FXd FYd
    refine wpAnyH_take (i := 0) (v := .agg #[.int .i64 pr, .slice pu ks.length cu]) (by simp only [List.getElem?_toArray, List.getElem?_cons_zero]; rfl) (by kernel_rfl) (by kernel_rfl) (by kernel_rfl) (by intro _ _ _ h; exact h) (Or.inl ⟨by rfl, fun w hS => by (have y0 := hS.1.1; have y1 := hS.1.2; go_simp)⟩) hH ?_
    simp only [Act.put, List.setIfInBounds_toArray, List.set_cons_zero, List.set_cons_succ]
    refine wpAnyH_take (i := 1) (v := .int .i64 1) (by simp only [List.getElem?_toArray, List.getElem?_cons_succ, List.getElem?_cons_zero]; rfl) (by kernel_rfl) (by kernel_rfl) (by kernel_rfl) (by intro _ _ _ h; exact h) (Or.inl ⟨by rfl, fun w hS => by go_simp⟩) hH ?_
    simp only [Act.put, List.setIfInBounds_toArray, List.set_cons_zero, List.set_cons_succ]
    refine wpAnyH_take (i := 2) (v := .agg #[.int .i64 id0, .slice pb bs.length cb]) (by simp only [List.getElem?_toArray, List.getElem?_cons_succ, List.getElem?_cons_zero]; rfl) (by kernel_rfl) (by kernel_rfl) (by kernel_rfl) (by intro _ _ _ h; exact h) (Or.inl ⟨by rfl, fun w hS => by (have y0 := hS.2.1; have y1 := hS.2.2; go_simp)⟩) hH ?_
    simp only [Act.put, List.setIfInBounds_toArray, List.set_cons_zero, List.set_cons_succ]
    have BX := hid (B0.out.trans (Bd.out.mono B0.out.size))
    clear Bd
    refine wpAnyH_ready (rs := [3]) (by kernel_rfl) (by simp) ?_
    refine AllReadyH.cons (by simp only [List.getElem?_toArray, List.getElem?_cons_succ, List.getElem?_cons_zero]; rfl) (fun K hK => ?_) AllReadyH.nil
    obtain ⟨q0, q1, z0, z1⟩ := var2_facts VR.out
    go_simp
    have VE := hid (var2_set (x' := .int .i64 pr) (y' := .slice pu ks.length cu) VR.out)
    have VK2 := hid (set2_otherR (x := .int .i64 pr) (y := .slice pu ks.length cu) (show gk ≠ gr by have := GG.out; omega) VK.out)
    have VW2 := hid (set2_otherR (x := .int .i64 pr) (y := .slice pu ks.length cu) (show gw ≠ gr by have := GW.out; omega) VW.out)
    have VX2 := hid (set2_otherR (x := .int .i64 pr) (y := .slice pu ks.length cu) (show gx ≠ gr by have := GX.out; omega) VX.out)
    have FX2 := hid ((FX.out.set (i := 0) (x := .int .i64 pr) (.inl (show gr < N by have := LQ.out; omega))).set (i := 1) (x := .slice pu ks.length cu) (.inl (show gr < N by have := LQ.out; omega)))
    have FY2 := hid ((FY.out.set (i := 0) (x := .int .i64 pr) (.inl (show gr < N2 by have := LZ.out; omega))).set (i := 1) (x := .slice pu ks.length cu) (.inl (show gr < N2 by have := LZ.out; omega)))
    have BX2 := hid (wbelR2 (x := .int .i64 pr) (y := .slice pu ks.length cu) BX.out (show w.heap.size ≤ gr by have := GG.out; omega))
    refine hK.out _ _ ⟨⟨(var2_facts VW2.out).1, (var2_facts VW2.out).2.1⟩, (var2_facts VX2.out).1, (var2_facts VX2.out).2.1⟩ (fun hH => ?_)
    clear hK K q0 q1 z0 z1 VW VX FX FY BX VR VK
    have VK := VK2
    have VW := VW2
    have VX := VX2
    have FX := FX2
    have FY := FY2
    have BX := BX2
    have VR := VE
    clear VE VK2 VW2 VX2 FX2 FY2 BX2
    generalize (x.setCell ⟨gr, 0, none⟩ (.int .i64 pr)).setCell ⟨gr, 1, none⟩ (.slice pu ks.length cu) = xa at *
    refine wpAnyH_take (i := 4) (v := .int .i64 1) (by simp only [List.getElem?_toArray, List.getElem?_cons_succ, List.getElem?_cons_zero]; rfl) (by kernel_rfl) (by kernel_rfl) (by kernel_rfl) (by intro _ _ _ h; exact h) (Or.inl ⟨by rfl, fun w hS => by go_simp⟩) hH ?_
    simp only [Act.put, List.setIfInBounds_toArray, List.set_cons_zero, List.set_cons_succ]
    refine wpAnyH_ready (rs := [5]) (by kernel_rfl) (by simp) ?_
    refine AllReadyH.cons (by simp only [List.getElem?_toArray, List.getElem?_cons_succ, List.getElem?_cons_zero]; rfl) (fun K hK => ?_) AllReadyH.nil
    obtain ⟨q0, q1, z0, z1⟩ := var2_facts VK.out
    go_simp
    have VE := hid (var2_set (x' := .int .i64 id0) (y' := .slice pb bs.length cb) VK.out)
    have VR2 := hid (set2_otherR (x := .int .i64 id0) (y := .slice pb bs.length cb) (show gr ≠ gk by have := GG.out; omega) VR.out)
    have VW2 := hid (set2_otherR (x := .int .i64 id0) (y := .slice pb bs.length cb) (show gw ≠ gk by have := GW.out; omega) VW.out)
    have VX2 := hid (set2_otherR (x := .int .i64 id0) (y := .slice pb bs.length cb) (show gx ≠ gk by have := GX.out; omega) VX.out)
    have FX2 := hid ((FX.out.set (i := 0) (x := .int .i64 id0) (.inl (show gk < N by have := LQ.out; omega))).set (i := 1) (x := .slice pb bs.length cb) (.inl (show gk < N by have := LQ.out; omega)))
    have FY2 := hid ((FY.out.set (i := 0) (x := .int .i64 id0) (.inl (show gk < N2 by have := LZ.out; omega))).set (i := 1) (x := .slice pb bs.length cb) (.inl (show gk < N2 by have := LZ.out; omega)))
    have BX2 := hid (wbelR2 (x := .int .i64 id0) (y := .slice pb bs.length cb) BX.out (show w.heap.size ≤ gk by have := GG.out; omega))
    refine hK.out _ _ ⟨⟨(var2_facts VW2.out).1, (var2_facts VW2.out).2.1⟩, (var2_facts VX2.out).1, (var2_facts VX2.out).2.1⟩ (fun hH => ?_)
    clear hK K q0 q1 z0 z1 VW VX FX FY BX VK VR
    have VR := VR2
    have VW := VW2
    have VX := VX2
    have FX := FX2
    have FY := FY2
    have BX := BX2
    have VK := VE
    clear VE VR2 VW2 VX2 FX2 FY2 BX2
    generalize (xa.setCell ⟨gk, 0, none⟩ (.int .i64 id0)).setCell ⟨gk, 1, none⟩ (.slice pb bs.length cb) = xb at *
    refine wpAnyH_done (by kernel_rfl) ?_ _
    go_wp2
    exact bodyPost_ret (v := .tuple #[.agg #[.int .i64 pr, .slice pu ks.length cu], .int .i64 1, .agg #[.int .i64 id0, .slice pb bs.length cb]]) (results_ctc rfl _ _ (.int .i64 1) gr gk 38 40 _ _ _ _ _ _ rfl rfl rfl VR.out VK.out Try.underlying38 rfl (by kernel_rfl) Try.underlying40 rfl (by kernel_rfl)) rfl ⟨pr, 1, id0, .slice pu ks.length cu, .slice pb bs.length cb, ks, bs, rfl, FX.out.rd, FY.out.rd, KX.out.1, KX.out.2, by first | exact hop2 | omega, KY.out.1, KY.out.2, BX.out⟩
  have eo : (op != 1) = true := by rw [bne_iff_ne]; exact ho
  go_wp2_with fail
  refine (chance x0 x6 gs _ l _ 9 S.out (by omega) (by omega) hl).mono ?_
  rintro e x7 ⟨r, rfl, hS, hG⟩
  replace S := hid hS
  replace FX := hid (FX.out.grownG hG LQ.out.2.2 HM.out)
  replace FY := hid (FY.out.grownG hG LN.out HM2.out)
  replace VR := hid (var_grown hG VR.out (fun e => by have := Option.some.inj e; have := NVR.out; omega))
  replace VK := hid (var_grown hG VK.out (fun e => by have := Option.some.inj e; have := NVK.out; omega))
  replace VW := hid (var_grown hG VW.out (fun e => by have := Option.some.inj e; have := NVW.out; omega))
  replace VX := hid (var_grown hG VX.out (fun e => by have := Option.some.inj e; have := NVX.out; omega))
  replace HM := hid (Nat.le_trans HM.out hG.size)
  replace HM2 := hid (Nat.le_trans HM2.out hG.size)
  clear hS hG
  cases r
  · skip
    obtain ⟨y0, y1, f0, f1⟩ := var2_facts VX.out
    go_upto_region 7 with fail
    clear y0 y1 f0 f1
    have e1 := heap_setCell_same x7 gx 1 _ _ (.slice none 0 0) VX.out
    have VY := hid (show (x7.setCell ⟨gx, 1, none⟩ (.slice none 0 0)).heap[gx]? = some (.cells #[.int .i64 id0, .slice none 0 0] 40) by simpa using e1)
    replace VR := hid (set1_otherk (i := 1) (x := .slice none 0 0) (show gr ≠ gx by have := GX.out; omega) VR.out)
    replace VK := hid (set1_otherk (i := 1) (x := .slice none 0 0) (show gk ≠ gx by have := GX.out; omega) VK.out)
    replace VW := hid (set1_otherk (i := 1) (x := .slice none 0 0) (show gw ≠ gx by have := GX.out; omega) VW.out)
    replace S := hid (src_set (i := 1) (V := gx) S.out (fun e => NVX.out e.symm) (show x0.heap.size ≤ gx by have := BG.out; omega) (.slice none 0 0))
    replace FX := hid (FX.out.set (i := 1) (x := .slice none 0 0) (.inr (.inl GX.out.2.2.2.1)))
    replace FY := hid (FY.out.set (i := 1) (x := .slice none 0 0) (.inr GX.out.2.2.2.2))
    replace HM := hid (show M ≤ (x7.setCell ⟨gx, 1, none⟩ (.slice none 0 0)).heap.size by have := HM.out; simpa [World.setCell] using this)
    replace HM2 := hid (show M2 ≤ (x7.setCell ⟨gx, 1, none⟩ (.slice none 0 0)).heap.size by have := HM2.out; simpa [World.setCell] using this)
    clear VX e1
    have VX := VY
    clear VY
    generalize x7.setCell ⟨gx, 1, none⟩ (.slice none 0 0) = x8 at *
    replace FY := hid (FB.nil x8 N2 M2)
    have VL := hid (show Lst (x8.alloc (.cells #[.int .i64 1, .int .i64 2, .int .i64 3, .int .i64 5, .int .i64 6] 2)) x8.heap.size [1, 2, 3, 5, 6] from heap_alloc_new x8 (.cells #[.int .i64 1, .int .i64 2, .int .i64 3, .int .i64 5, .int .i64 6] 2))
    have hA := below_alloc1 x8 (.cells #[.int .i64 1, .int .i64 2, .int .i64 3, .int .i64 5, .int .i64 6] 2)
    have NG := hid (show x8.heap.size ≠ gs by have := var_lt S.out.cells; omega)
    replace S := hid (S.out.later hA)
    replace FX := hid (FX.out.below hA HM.out)
    replace FY := hid (FY.out.below hA HM2.out)
    replace VR := hid (var_below hA VR.out)
    replace VK := hid (var_below hA VK.out)
    replace VW := hid (var_below hA VW.out)
    replace VX := hid (var_below hA VX.out)
    replace HM := hid (Nat.le_trans HM.out hA.size)
    replace HM2 := hid (Nat.le_trans HM2.out hA.size)
    clear hA
    go_wp2_with fail
    refine (pick' x0 _ gs x8.heap.size 5 _ l _ [1, 2, 3, 5, 6] S.out (by omega) hl VL.out NG.out rfl (by omega) (by omega)).mono ?_
    rintro e x9 ⟨i2, hi2, rfl, hS, hG⟩
    replace S := hid hS
    replace FX := hid (FX.out.grownG hG LQ.out.2.2 HM.out)
    replace FY := hid (FY.out.grownG hG LN.out HM2.out)
    replace VR := hid (var_grown hG VR.out (fun e => by have := Option.some.inj e; have := NVR.out; omega))
    replace VK := hid (var_grown hG VK.out (fun e => by have := Option.some.inj e; have := NVK.out; omega))
    replace VW := hid (var_grown hG VW.out (fun e => by have := Option.some.inj e; have := NVW.out; omega))
    replace VX := hid (var_grown hG VX.out (fun e => by have := Option.some.inj e; have := NVX.out; omega))
    replace HM := hid (Nat.le_trans HM.out hG.size)
    replace HM2 := hid (Nat.le_trans HM2.out hG.size)
    clear hS hG
    clear VL NG
    have hi2b : 0 ≤ i2 ∧ i2 ≤ 300 := by simp at hi2; omega
    clear hi2
    obtain ⟨y0, y1, f0, f1⟩ := var2_facts VX.out
    go_upto_region 8 with fail
    clear y0 y1 f0 f1
    have e1 := heap_setCell_same x9 gx 0 _ _ (.int .i64 i2) VX.out
    have VY := hid (show (x9.setCell ⟨gx, 0, none⟩ (.int .i64 i2)).heap[gx]? = some (.cells #[.int .i64 i2, .slice none 0 0] 40) by simpa using e1)
    replace VR := hid (set1_otherk (i := 0) (x := .int .i64 i2) (show gr ≠ gx by have := GX.out; omega) VR.out)
    replace VK := hid (set1_otherk (i := 0) (x := .int .i64 i2) (show gk ≠ gx by have := GX.out; omega) VK.out)
    replace VW := hid (set1_otherk (i := 0) (x := .int .i64 i2) (show gw ≠ gx by have := GX.out; omega) VW.out)
    replace S := hid (src_set (i := 0) (V := gx) S.out (fun e => NVX.out e.symm) (show x0.heap.size ≤ gx by have := BG.out; omega) (.int .i64 i2))
    replace FX := hid (FX.out.set (i := 0) (x := .int .i64 i2) (.inr (.inl GX.out.2.2.2.1)))
    replace FY := hid (FY.out.set (i := 0) (x := .int .i64 i2) (.inr GX.out.2.2.2.2))
    replace HM := hid (show M ≤ (x9.setCell ⟨gx, 0, none⟩ (.int .i64 i2)).heap.size by have := HM.out; simpa [World.setCell] using this)
    replace HM2 := hid (show M2 ≤ (x9.setCell ⟨gx, 0, none⟩ (.int .i64 i2)).heap.size by have := HM2.out; simpa [World.setCell] using this)
    clear VX e1
    have VX := VY
    clear VY
    generalize x9.setCell ⟨gx, 0, none⟩ (.int .i64 i2) = x10 at *
    obtain ⟨y0, y1, -, -⟩ := var2_facts VW.out
    obtain ⟨v0, v1, -, -⟩ := var2_facts VX.out
    skip
    refine wp_region_held_drew (S := fun w' => (w'.cell? ⟨gw, 0, none⟩ = some (.int .i64 pr) ∧ w'.cell? ⟨gw, 1, none⟩ = some (.slice pu ks.length cu)) ∧ (w'.cell? ⟨gx, 0, none⟩ = some (.int .i64 i2) ∧ w'.cell? ⟨gx, 1, none⟩ = some (.slice none 0 0))) (by kernel_rfl) ⟨⟨y0, y1⟩, v0, v1⟩ (fun hH => ?_)
    clear y0 y1 v0 v1
    have VWd := hid (show x10.drew.heap[gw]? = some (.cells #[.int .i64 pr, .slice pu ks.length cu] 38) from VW.out)
    have VXd := hid (show x10.drew.heap[gx]? = some (.cells #[.int .i64 i2, .slice none 0 0] 40) from VX.out)
    have VRd := hid (show x10.drew.heap[gr]? = some (.cells #[.int .i64 0, .slice none 0 0] 38) from VR.out)
    have VKd := hid (show x10.drew.heap[gk]? = some (.cells #[.int .i64 0, .slice none 0 0] 40) from VK.out)
    have FXd := hid (show FK x10.drew N M M (.slice pu ks.length cu) ks from FX.out.go (fun _ _ _ _ => rfl))
    have FYd := hid (show FB x10.drew N2 M2 (.slice none 0 0) [] from FY.out.go (fun _ _ _ => rfl))
    have Bd := hid (show Below x0.heap.size x0 x10.drew from S.out.bel.drew)
    clear VW VX VR VK FX FY S
    generalize x10.drew = x at *
    have VW := VWd
    have VX := VXd
    have VR := VRd
    have VK := VKd
    have FX := FXd
    have FY := FYd
    clear VWd VXd VRd VKd FXd FYd
    refine wpAnyH_take (i := 0) (v := .agg #[.int .i64 pr, .slice pu ks.length cu]) (by simp only [List.getElem?_toArray, List.getElem?_cons_zero]; rfl) (by kernel_rfl) (by kernel_rfl) (by kernel_rfl) (by intro _ _ _ h; exact h) (Or.inl ⟨by rfl, fun w hS => by (have y0 := hS.1.1; have y1 := hS.1.2; go_simp)⟩) hH ?_
    simp only [Act.put, List.setIfInBounds_toArray, List.set_cons_zero, List.set_cons_succ]
    refine wpAnyH_take (i := 1) (v := .int .i64 op) (by simp only [List.getElem?_toArray, List.getElem?_cons_succ, List.getElem?_cons_zero]; rfl) (by kernel_rfl) (by kernel_rfl) (by kernel_rfl) (by intro _ _ _ h; exact h) (Or.inl ⟨by rfl, fun w hS => by go_simp⟩) hH ?_
    simp only [Act.put, List.setIfInBounds_toArray, List.set_cons_zero, List.set_cons_succ]
    refine wpAnyH_take (i := 2) (v := .agg #[.int .i64 i2, .slice none 0 0]) (by simp only [List.getElem?_toArray, List.getElem?_cons_succ, List.getElem?_cons_zero]; rfl) (by kernel_rfl) (by kernel_rfl) (by kernel_rfl) (by intro _ _ _ h; exact h) (Or.inl ⟨by rfl, fun w hS => by (have y0 := hS.2.1; have y1 := hS.2.2; go_simp)⟩) hH ?_
    simp only [Act.put, List.setIfInBounds_toArray, List.set_cons_zero, List.set_cons_succ]
    have BX := hid (B0.out.trans (Bd.out.mono B0.out.size))
    clear Bd
    refine wpAnyH_ready (rs := [3]) (by kernel_rfl) (by simp) ?_
    refine AllReadyH.cons (by simp only [List.getElem?_toArray, List.getElem?_cons_succ, List.getElem?_cons_zero]; rfl) (fun K hK => ?_) AllReadyH.nil
    obtain ⟨q0, q1, z0, z1⟩ := var2_facts VR.out
    go_simp
    have VE := hid (var2_set (x' := .int .i64 pr) (y' := .slice pu ks.length cu) VR.out)
    have VK2 := hid (set2_otherR (x := .int .i64 pr) (y := .slice pu ks.length cu) (show gk ≠ gr by have := GG.out; omega) VK.out)
    have VW2 := hid (set2_otherR (x := .int .i64 pr) (y := .slice pu ks.length cu) (show gw ≠ gr by have := GW.out; omega) VW.out)
    have VX2 := hid (set2_otherR (x := .int .i64 pr) (y := .slice pu ks.length cu) (show gx ≠ gr by have := GX.out; omega) VX.out)
    have FX2 := hid ((FX.out.set (i := 0) (x := .int .i64 pr) (.inl (show gr < N by have := LQ.out; omega))).set (i := 1) (x := .slice pu ks.length cu) (.inl (show gr < N by have := LQ.out; omega)))
    have FY2 := hid ((FY.out.set (i := 0) (x := .int .i64 pr) (.inl (show gr < N2 by have := LZ.out; omega))).set (i := 1) (x := .slice pu ks.length cu) (.inl (show gr < N2 by have := LZ.out; omega)))
    have BX2 := hid (wbelR2 (x := .int .i64 pr) (y := .slice pu ks.length cu) BX.out (show w.heap.size ≤ gr by have := GG.out; omega))
    refine hK.out _ _ ⟨⟨(var2_facts VW2.out).1, (var2_facts VW2.out).2.1⟩, (var2_facts VX2.out).1, (var2_facts VX2.out).2.1⟩ (fun hH => ?_)
    clear hK K q0 q1 z0 z1 VW VX FX FY BX VR VK
    have VK := VK2
    have VW := VW2
    have VX := VX2
    have FX := FX2
    have FY := FY2
    have BX := BX2
    have VR := VE
    clear VE VK2 VW2 VX2 FX2 FY2 BX2
    generalize (x.setCell ⟨gr, 0, none⟩ (.int .i64 pr)).setCell ⟨gr, 1, none⟩ (.slice pu ks.length cu) = xa at *
    refine wpAnyH_take (i := 4) (v := .int .i64 op) (by simp only [List.getElem?_toArray, List.getElem?_cons_succ, List.getElem?_cons_zero]; rfl) (by kernel_rfl) (by kernel_rfl) (by kernel_rfl) (by intro _ _ _ h; exact h) (Or.inl ⟨by rfl, fun w hS => by go_simp⟩) hH ?_
    simp only [Act.put, List.setIfInBounds_toArray, List.set_cons_zero, List.set_cons_succ]
    refine wpAnyH_ready (rs := [5]) (by kernel_rfl) (by simp) ?_
    refine AllReadyH.cons (by simp only [List.getElem?_toArray, List.getElem?_cons_succ, List.getElem?_cons_zero]; rfl) (fun K hK => ?_) AllReadyH.nil
    obtain ⟨q0, q1, z0, z1⟩ := var2_facts VK.out
    go_simp
    have VE := hid (var2_set (x' := .int .i64 i2) (y' := .slice none 0 0) VK.out)
    have VR2 := hid (set2_otherR (x := .int .i64 i2) (y := .slice none 0 0) (show gr ≠ gk by have := GG.out; omega) VR.out)
    have VW2 := hid (set2_otherR (x := .int .i64 i2) (y := .slice none 0 0) (show gw ≠ gk by have := GW.out; omega) VW.out)
    have VX2 := hid (set2_otherR (x := .int .i64 i2) (y := .slice none 0 0) (show gx ≠ gk by have := GX.out; omega) VX.out)
    have FX2 := hid ((FX.out.set (i := 0) (x := .int .i64 i2) (.inl (show gk < N by have := LQ.out; omega))).set (i := 1) (x := .slice none 0 0) (.inl (show gk < N by have := LQ.out; omega)))
    have FY2 := hid ((FY.out.set (i := 0) (x := .int .i64 i2) (.inl (show gk < N2 by have := LZ.out; omega))).set (i := 1) (x := .slice none 0 0) (.inl (show gk < N2 by have := LZ.out; omega)))
    have BX2 := hid (wbelR2 (x := .int .i64 i2) (y := .slice none 0 0) BX.out (show w.heap.size ≤ gk by have := GG.out; omega))
    refine hK.out _ _ ⟨⟨(var2_facts VW2.out).1, (var2_facts VW2.out).2.1⟩, (var2_facts VX2.out).1, (var2_facts VX2.out).2.1⟩ (fun hH => ?_)
    clear hK K q0 q1 z0 z1 VW VX FX FY BX VK VR
    have VR := VR2
    have VW := VW2
    have VX := VX2
    have FX := FX2
    have FY := FY2
    have BX := BX2
    have VK := VE
    clear VE VR2 VW2 VX2 FX2 FY2 BX2
    generalize (xa.setCell ⟨gk, 0, none⟩ (.int .i64 i2)).setCell ⟨gk, 1, none⟩ (.slice none 0 0) = xb at *
    refine wpAnyH_done (by kernel_rfl) ?_ _
    go_wp2
    exact bodyPost_ret (v := .tuple #[.agg #[.int .i64 pr, .slice pu ks.length cu], .int .i64 op, .agg #[.int .i64 i2, .slice none 0 0]]) (results_ctc rfl _ _ (.int .i64 op) gr gk 38 40 _ _ _ _ _ _ rfl rfl rfl VR.out VK.out Try.underlying38 rfl (by kernel_rfl) Try.underlying40 rfl (by kernel_rfl)) rfl ⟨pr, op, i2, .slice pu ks.length cu, .slice none 0 0, ks, [], rfl, FX.out.rd, FY.out.rd, KX.out.1, KX.out.2, by first | exact hop2 | omega, hi2b, ⟨by simp, fun x hx => by simp at hx⟩, BX.out⟩
  · go_wp2_with fail
    obtain ⟨y0, y1, -, -⟩ := var2_facts VW.out
    obtain ⟨v0, v1, -, -⟩ := var2_facts VX.out
    skip
    refine wp_region_held_drew (S := fun w' => (w'.cell? ⟨gw, 0, none⟩ = some (.int .i64 pr) ∧ w'.cell? ⟨gw, 1, none⟩ = some (.slice pu ks.length cu)) ∧ (w'.cell? ⟨gx, 0, none⟩ = some (.int .i64 id0) ∧ w'.cell? ⟨gx, 1, none⟩ = some (.slice pb bs.length cb))) (by kernel_rfl) ⟨⟨y0, y1⟩, v0, v1⟩ (fun hH => ?_)
    clear y0 y1 v0 v1
    have VWd := hid (show x7.drew.heap[gw]? = some (.cells #[.int .i64 pr, .slice pu ks.length cu] 38) from VW.out)
    have VXd := hid (show x7.drew.heap[gx]? = some (.cells #[.int .i64 id0, .slice pb bs.length cb] 40) from VX.out)
    have VRd := hid (show x7.drew.heap[gr]? = some (.cells #[.int .i64 0, .slice none 0 0] 38) from VR.out)
    have VKd := hid (show x7.drew.heap[gk]? = some (.cells #[.int .i64 0, .slice none 0 0] 40) from VK.out)
    have FXd := hid (show FK x7.drew N M M (.slice pu ks.length cu) ks from FX.out.go (fun _ _ _ _ => rfl))
    have FYd := hid (show FB x7.drew N2 M2 (.slice pb bs.length cb) bs from FY.out.go (fun _ _ _ => rfl))
    have Bd := hid (show Below x0.heap.size x0 x7.drew from S.out.bel.drew)
    clear VW VX VR VK FX FY S
    generalize x7.drew = x at *
    have VW := VWd
    have VX := VXd
    have VR := VRd
    have VK := VKd
    have FX := FXd
    have FY := FYd
    clear VWd VXd VRd VKd FXd FYd
    refine wpAnyH_take (i := 0) (v := .agg #[.int .i64 pr, .slice pu ks.length cu]) (by simp only [List.getElem?_toArray, List.getElem?_cons_zero]; rfl) (by kernel_rfl) (by kernel_rfl) (by kernel_rfl) (by intro _ _ _ h; exact h) (Or.inl ⟨by rfl, fun w hS => by (have y0 := hS.1.1; have y1 := hS.1.2; go_simp)⟩) hH ?_
    simp only [Act.put, List.setIfInBounds_toArray, List.set_cons_zero, List.set_cons_succ]
    refine wpAnyH_take (i := 1) (v := .int .i64 op) (by simp only [List.getElem?_toArray, List.getElem?_cons_succ, List.getElem?_cons_zero]; rfl) (by kernel_rfl) (by kernel_rfl) (by kernel_rfl) (by intro _ _ _ h; exact h) (Or.inl ⟨by rfl, fun w hS => by go_simp⟩) hH ?_
    simp only [Act.put, List.setIfInBounds_toArray, List.set_cons_zero, List.set_cons_succ]
    refine wpAnyH_take (i := 2) (v := .agg #[.int .i64 id0, .slice pb bs.length cb]) (by simp only [List.getElem?_toArray, List.getElem?_cons_succ, List.getElem?_cons_zero]; rfl) (by kernel_rfl) (by kernel_rfl) (by kernel_rfl) (by intro _ _ _ h; exact h) (Or.inl ⟨by rfl, fun w hS => by (have y0 := hS.2.1; have y1 := hS.2.2; go_simp)⟩) hH ?_
    simp only [Act.put, List.setIfInBounds_toArray, List.set_cons_zero, List.set_cons_succ]
    have BX := hid (B0.out.trans (Bd.out.mono B0.out.size))
    clear Bd
    refine wpAnyH_ready (rs := [3]) (by kernel_rfl) (by simp) ?_
    refine AllReadyH.cons (by simp only [List.getElem?_toArray, List.getElem?_cons_succ, List.getElem?_cons_zero]; rfl) (fun K hK => ?_) AllReadyH.nil
    obtain ⟨q0, q1, z0, z1⟩ := var2_facts VR.out
    go_simp
    have VE := hid (var2_set (x' := .int .i64 pr) (y' := .slice pu ks.length cu) VR.out)
    have VK2 := hid (set2_otherR (x := .int .i64 pr) (y := .slice pu ks.length cu) (show gk ≠ gr by have := GG.out; omega) VK.out)
    have VW2 := hid (set2_otherR (x := .int .i64 pr) (y := .slice pu ks.length cu) (show gw ≠ gr by have := GW.out; omega) VW.out)
    have VX2 := hid (set2_otherR (x := .int .i64 pr) (y := .slice pu ks.length cu) (show gx ≠ gr by have := GX.out; omega) VX.out)
    have FX2 := hid ((FX.out.set (i := 0) (x := .int .i64 pr) (.inl (show gr < N by have := LQ.out; omega))).set (i := 1) (x := .slice pu ks.length cu) (.inl (show gr < N by have := LQ.out; omega)))
    have FY2 := hid ((FY.out.set (i := 0) (x := .int .i64 pr) (.inl (show gr < N2 by have := LZ.out; omega))).set (i := 1) (x := .slice pu ks.length cu) (.inl (show gr < N2 by have := LZ.out; omega)))
    have BX2 := hid (wbelR2 (x := .int .i64 pr) (y := .slice pu ks.length cu) BX.out (show w.heap.size ≤ gr by have := GG.out; omega))
    refine hK.out _ _ ⟨⟨(var2_facts VW2.out).1, (var2_facts VW2.out).2.1⟩, (var2_facts VX2.out).1, (var2_facts VX2.out).2.1⟩ (fun hH => ?_)
    clear hK K q0 q1 z0 z1 VW VX FX FY BX VR VK
    have VK := VK2
    have VW := VW2
    have VX := VX2
    have FX := FX2
    have FY := FY2
    have BX := BX2
    have VR := VE
    clear VE VK2 VW2 VX2 FX2 FY2 BX2
    generalize (x.setCell ⟨gr, 0, none⟩ (.int .i64 pr)).setCell ⟨gr, 1, none⟩ (.slice pu ks.length cu) = xa at *
    refine wpAnyH_take (i := 4) (v := .int .i64 op) (by simp only [List.getElem?_toArray, List.getElem?_cons_succ, List.getElem?_cons_zero]; rfl) (by kernel_rfl) (by kernel_rfl) (by kernel_rfl) (by intro _ _ _ h; exact h) (Or.inl ⟨by rfl, fun w hS => by go_simp⟩) hH ?_
    simp only [Act.put, List.setIfInBounds_toArray, List.set_cons_zero, List.set_cons_succ]
    refine wpAnyH_ready (rs := [5]) (by kernel_rfl) (by simp) ?_
    refine AllReadyH.cons (by simp only [List.getElem?_toArray, List.getElem?_cons_succ, List.getElem?_cons_zero]; rfl) (fun K hK => ?_) AllReadyH.nil
    obtain ⟨q0, q1, z0, z1⟩ := var2_facts VK.out
    go_simp
    have VE := hid (var2_set (x' := .int .i64 id0) (y' := .slice pb bs.length cb) VK.out)
    have VR2 := hid (set2_otherR (x := .int .i64 id0) (y := .slice pb bs.length cb) (show gr ≠ gk by have := GG.out; omega) VR.out)
    have VW2 := hid (set2_otherR (x := .int .i64 id0) (y := .slice pb bs.length cb) (show gw ≠ gk by have := GW.out; omega) VW.out)
    have VX2 := hid (set2_otherR (x := .int .i64 id0) (y := .slice pb bs.length cb) (show gx ≠ gk by have := GX.out; omega) VX.out)
    have FX2 := hid ((FX.out.set (i := 0) (x := .int .i64 id0) (.inl (show gk < N by have := LQ.out; omega))).set (i := 1) (x := .slice pb bs.length cb) (.inl (show gk < N by have := LQ.out; omega)))
    have FY2 := hid ((FY.out.set (i := 0) (x := .int .i64 id0) (.inl (show gk < N2 by have := LZ.out; omega))).set (i := 1) (x := .slice pb bs.length cb) (.inl (show gk < N2 by have := LZ.out; omega)))
    have BX2 := hid (wbelR2 (x := .int .i64 id0) (y := .slice pb bs.length cb) BX.out (show w.heap.size ≤ gk by have := GG.out; omega))
    refine hK.out _ _ ⟨⟨(var2_facts VW2.out).1, (var2_facts VW2.out).2.1⟩, (var2_facts VX2.out).1, (var2_facts VX2.out).2.1⟩ (fun hH => ?_)
    clear hK K q0 q1 z0 z1 VW VX FX FY BX VK VR
    have VR := VR2
    have VW := VW2
    have VX := VX2
    have FX := FX2
    have FY := FY2
    have BX := BX2
    have VK := VE
    clear VE VR2 VW2 VX2 FX2 FY2 BX2
    generalize (xa.setCell ⟨gk, 0, none⟩ (.int .i64 id0)).setCell ⟨gk, 1, none⟩ (.slice pb bs.length cb) = xb at *
    refine wpAnyH_done (by kernel_rfl) ?_ _
    go_wp2
    exact bodyPost_ret (v := .tuple #[.agg #[.int .i64 pr, .slice pu ks.length cu], .int .i64 op, .agg #[.int .i64 id0, .slice pb bs.length cb]]) (results_ctc rfl _ _ (.int .i64 op) gr gk 38 40 _ _ _ _ _ _ rfl rfl rfl VR.out VK.out Try.underlying38 rfl (by kernel_rfl) Try.underlying40 rfl (by kernel_rfl)) rfl ⟨pr, op, id0, .slice pu ks.length cu, .slice pb bs.length cb, ks, bs, rfl, FX.out.rd, FY.out.rd, KX.out.1, KX.out.2, by first | exact hop2 | omega, KY.out.1, KY.out.2, BX.out⟩
end Go.Proofs.Ytbfdbicddmffnab.W

namespace Go.Proofs.Ytbfdbicddmffnab.W
open Go.ChangeShapes Go.WideShapes Go.ChangeAt Go.RowKit
open Go.Proofs.Ytbfdbicddmffnab.M

theorem copyR (v : Value) (l : List Nat) (n : Nat) (w : World) (h : Rd w v l) (hn : l.length = n) (h0 : 0 < n) (hl : n ≤ 1048576) :
    Calls Try.prog 93 #[v] w fun e w' => ∃ v', e = .returned v' ∧ Own w' w.heap.size v' l ∧ Below w.heap.size w w' := by
  obtain ⟨i0, hi, hz0, hz1, hz2⟩ := info_parts info8
  obtain ⟨b, o, cap, rfl, -, -⟩ := h.spot (by omega)
  have hO0 := own_lit0 w
  have HC := hid (fun k (hk : k < l.length) => h.cells k hk)
  clear h
  rw [hn]
  go_enter Try.func93, Try.ntmps93
  go_wp2_with (at_builtin; refine wpList_append_own _ rfl _ _ _ rfl w.heap.size 5 i0 (.int .u8 0) 1 1 Try.underlying22 hi hz0 hz1 hz2 rfl (by omega) _ _ _ rfl hO0 ⟨b, o, none⟩ n cap (l.map bv) rfl (by simp [hn]) ?_ ?_ ?_ ?_ ?_ ?_)
  · intro j u hj
    have hj' : j < l.length := by
      rcases Nat.lt_or_ge j l.length with q | q
      · exact q
      · rw [List.getElem?_eq_none (by simpa using q)] at hj; cases hj
    rw [List.getElem?_map, List.getElem?_eq_getElem hj'] at hj
    cases hj
    have q := HC.out j hj'
    rw [gt_eq l j hj'] at q
    rw [Addr.add_lit]
    exact cell_alloc q _
  · intro u hu
    obtain ⟨x, _, rfl⟩ := List.mem_map.1 hu
    rfl
  · unfold maxLen; simp; omega
  · simp; omega
  · simp
  · intro v' w1 hown1 hgrow1 _
    have hO1 : Own w1 w.heap.size v' l := by
      unfold Own
      rw [hn]
      simpa using hown1
    have hB1 : Below w.heap.size w w1 := (below_alloc1 w _).grown hgrow1 (by simp) (fun x e => by simp [Value.ownBlock] at e; omega)
    clear hown1 hgrow1 hO0
    go_wp2
    go_ret
    exact ⟨v', rfl, hO1, hB1⟩
end Go.Proofs.Ytbfdbicddmffnab.W
