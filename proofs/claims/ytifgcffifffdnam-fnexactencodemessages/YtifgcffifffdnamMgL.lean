/-
  How the exact laws measure, copy, compare and mark a message. Generated text.
-/
import Derived.Test.YtifgcffifffdnamMgK
import Derived.Test.YtifgcffifffdnamClfW
import Derived.Test.YtifgcffifffdnamStrW
import Derived.Test.YtifgcffifffdnamLetF
namespace Go.Proofs.Ytifgcffifffdnam.W
open Go.ChangeShapes Go.WideShapes Go.ChangeAt Go.RowKit
open Go.Proofs.Ytifgcffifffdnam.M

theorem v10_cl {w : World} {g : Nat} {x0 x1 x2 x3 x4 x5 x6 x7 x8 x9 y3 y4 y5 y6 y7 : Value} {T : TypeId} (h : w.heap[g]? = some (.cells #[x0, x1, x2, x3, x4, x5, x6, x7, x8, x9] T)) : (((((w.setCell ⟨g, 3, none⟩ y3).setCell ⟨g, 4, none⟩ y4).setCell ⟨g, 5, none⟩ y5).setCell ⟨g, 6, none⟩ y6).setCell ⟨g, 7, none⟩ y7).heap[g]? = some (.cells #[x0, x1, x2, y3, y4, y5, y6, y7, x8, x9] T) := by
  have h0 := heap_setCell_same _ g 3 _ T y3 h
  have h1 := heap_setCell_same _ g 4 _ T y4 h0
  have h2 := heap_setCell_same _ g 5 _ T y5 h1
  have h3 := heap_setCell_same _ g 6 _ T y6 h2
  have h4 := heap_setCell_same _ g 7 _ T y7 h3
  simpa using h4
theorem v10_cl_other {w : World} {g g2 : Nat} {o : Obj} {y3 y4 y5 y6 y7 : Value} (h : w.heap[g]? = some o) (hne : g ≠ g2) : (((((w.setCell ⟨g2, 3, none⟩ y3).setCell ⟨g2, 4, none⟩ y4).setCell ⟨g2, 5, none⟩ y5).setCell ⟨g2, 6, none⟩ y6).setCell ⟨g2, 7, none⟩ y7).heap[g]? = some o :=
  (var_other (var_other (var_other (var_other (var_other h ⟨g2, 3, none⟩ y3 hne) ⟨g2, 4, none⟩ y4 hne) ⟨g2, 5, none⟩ y5 hne) ⟨g2, 6, none⟩ y6 hne) ⟨g2, 7, none⟩ y7 hne)
theorem below_v10_cl {B : Nat} {w w' : World} {g : Nat} {y3 y4 y5 y6 y7 : Value} (hB : Below B w w') (hg : B ≤ g) : Below B w (((((w'.setCell ⟨g, 3, none⟩ y3).setCell ⟨g, 4, none⟩ y4).setCell ⟨g, 5, none⟩ y5).setCell ⟨g, 6, none⟩ y6).setCell ⟨g, 7, none⟩ y7) :=
  (((((hB.setCell (p := ⟨g, 3, none⟩) hg y3).setCell (p := ⟨g, 4, none⟩) hg y4).setCell (p := ⟨g, 5, none⟩) hg y5).setCell (p := ⟨g, 6, none⟩) hg y6).setCell (p := ⟨g, 7, none⟩) hg y7)
theorem v10_ky {w : World} {g : Nat} {x0 x1 x2 x3 x4 x5 x6 x7 x8 x9 y8 y9 : Value} {T : TypeId} (h : w.heap[g]? = some (.cells #[x0, x1, x2, x3, x4, x5, x6, x7, x8, x9] T)) : ((w.setCell ⟨g, 8, none⟩ y8).setCell ⟨g, 9, none⟩ y9).heap[g]? = some (.cells #[x0, x1, x2, x3, x4, x5, x6, x7, y8, y9] T) := by
  have h0 := heap_setCell_same _ g 8 _ T y8 h
  have h1 := heap_setCell_same _ g 9 _ T y9 h0
  simpa using h1
theorem v10_ky_other {w : World} {g g2 : Nat} {o : Obj} {y8 y9 : Value} (h : w.heap[g]? = some o) (hne : g ≠ g2) : ((w.setCell ⟨g2, 8, none⟩ y8).setCell ⟨g2, 9, none⟩ y9).heap[g]? = some o :=
  (var_other (var_other h ⟨g2, 8, none⟩ y8 hne) ⟨g2, 9, none⟩ y9 hne)
theorem below_v10_ky {B : Nat} {w w' : World} {g : Nat} {y8 y9 : Value} (hB : Below B w w') (hg : B ≤ g) : Below B w ((w'.setCell ⟨g, 8, none⟩ y8).setCell ⟨g, 9, none⟩ y9) :=
  ((hB.setCell (p := ⟨g, 8, none⟩) hg y8).setCell (p := ⟨g, 9, none⟩) hg y9)
theorem ob_ky {w : World} {lo hi g : Nat} {v : Value} {l : List Nat} {y8 y9 : Value} (h : OB w lo hi v l) (hg : g < lo) : OB ((w.setCell ⟨g, 8, none⟩ y8).setCell ⟨g, 9, none⟩ y9) lo hi v l := (h.low ⟨g, 8, none⟩ hg y8).low ⟨g, 9, none⟩ hg y9
theorem ob_v10 {w : World} {lo hi g : Nat} {v : Value} {l : List Nat} {y0 y1 y2 y3 y4 y5 y6 y7 y8 y9 : Value} (h : OB w lo hi v l) (hg : g < lo) : OB ((((((((((w.setCell ⟨g, 0, none⟩ y0).setCell ⟨g, 1, none⟩ y1).setCell ⟨g, 2, none⟩ y2).setCell ⟨g, 3, none⟩ y3).setCell ⟨g, 4, none⟩ y4).setCell ⟨g, 5, none⟩ y5).setCell ⟨g, 6, none⟩ y6).setCell ⟨g, 7, none⟩ y7).setCell ⟨g, 8, none⟩ y8).setCell ⟨g, 9, none⟩ y9) lo hi v l := ((((((((((h.low ⟨g, 0, none⟩ hg y0).low ⟨g, 1, none⟩ hg y1).low ⟨g, 2, none⟩ hg y2).low ⟨g, 3, none⟩ hg y3).low ⟨g, 4, none⟩ hg y4).low ⟨g, 5, none⟩ hg y5).low ⟨g, 6, none⟩ hg y6).low ⟨g, 7, none⟩ hg y7).low ⟨g, 8, none⟩ hg y8).low ⟨g, 9, none⟩ hg y9)
set_option maxHeartbeats 2000000 in
set_option maxRecDepth 100000 in
theorem toM (k s n cn ci cs cm op id' : Int) (v : Value) (l : List Nat) (w : World) (h : Rd w v l) (hl : l.length ≤ 1048576) :
    Calls Try.prog 19 #[.agg #[.int .i64 k, .int .i64 s, .int .i64 n, .int .i64 cn, .int .i64 ci, .int .i64 cs, .int .i64 cm, .int .i64 op, .int .i64 id', v]] w fun e w' => ∃ g, e = .returned (.agg #[.int .i64 k, .int .i64 s, .int .i64 n, .int .i64 cn, .int .i64 ci, .int .i64 cs, .int .i64 cm, .int .i64 op, .int .i64 id', .slice (some ⟨g, 0, none⟩) l.length l.length]) ∧ OB w' w.heap.size w'.heap.size (.slice (some ⟨g, 0, none⟩) l.length l.length) l ∧ Below w.heap.size w w' := by
  have H := hid h
  obtain ⟨a, cap, rfl, -, -, -⟩ := h.parts
  clear h
  go_enter Try.func19, Try.ntmps19
  go_wp2_with fail
  have VA : (((w.alloc (.cells #[.int .i64 k, .int .i64 s, .int .i64 n, .int .i64 cn, .int .i64 ci, .int .i64 cs, .int .i64 cm, .int .i64 op, .int .i64 id', .slice a l.length cap] 40)).alloc (.cells #[.int .i64 0, .int .i64 0, .int .i64 0, .int .i64 0, .int .i64 0, .int .i64 0, .int .i64 0, .int .i64 0, .int .i64 0, .slice none 0 0] 45)).alloc (.cells #[.int .i64 k, .int .i64 s, .int .i64 n, .int .i64 0, .int .i64 0, .int .i64 0, .int .i64 0, .int .i64 0, .int .i64 0, .slice none 0 0] 45)).heap[w.heap.size]? = some (.cells #[.int .i64 k, .int .i64 s, .int .i64 n, .int .i64 cn, .int .i64 ci, .int .i64 cs, .int .i64 cm, .int .i64 op, .int .i64 id', .slice a l.length cap] 40) := var_alloc _ (var_alloc _ (heap_alloc_new w _))
  have V1 : (((w.alloc (.cells #[.int .i64 k, .int .i64 s, .int .i64 n, .int .i64 cn, .int .i64 ci, .int .i64 cs, .int .i64 cm, .int .i64 op, .int .i64 id', .slice a l.length cap] 40)).alloc (.cells #[.int .i64 0, .int .i64 0, .int .i64 0, .int .i64 0, .int .i64 0, .int .i64 0, .int .i64 0, .int .i64 0, .int .i64 0, .slice none 0 0] 45)).alloc (.cells #[.int .i64 k, .int .i64 s, .int .i64 n, .int .i64 0, .int .i64 0, .int .i64 0, .int .i64 0, .int .i64 0, .int .i64 0, .slice none 0 0] 45)).heap[w.heap.size + 1]? = some (.cells #[.int .i64 0, .int .i64 0, .int .i64 0, .int .i64 0, .int .i64 0, .int .i64 0, .int .i64 0, .int .i64 0, .int .i64 0, .slice none 0 0] 45) := var_alloc _ (heap_alloc2_new w _ _)
  have V2 : (((w.alloc (.cells #[.int .i64 k, .int .i64 s, .int .i64 n, .int .i64 cn, .int .i64 ci, .int .i64 cs, .int .i64 cm, .int .i64 op, .int .i64 id', .slice a l.length cap] 40)).alloc (.cells #[.int .i64 0, .int .i64 0, .int .i64 0, .int .i64 0, .int .i64 0, .int .i64 0, .int .i64 0, .int .i64 0, .int .i64 0, .slice none 0 0] 45)).alloc (.cells #[.int .i64 k, .int .i64 s, .int .i64 n, .int .i64 0, .int .i64 0, .int .i64 0, .int .i64 0, .int .i64 0, .int .i64 0, .slice none 0 0] 45)).heap[w.heap.size + 1 + 1]? = some (.cells #[.int .i64 k, .int .i64 s, .int .i64 n, .int .i64 0, .int .i64 0, .int .i64 0, .int .i64 0, .int .i64 0, .int .i64 0, .slice none 0 0] 45) := by
    have h := heap_alloc2_new (w.alloc (.cells #[.int .i64 k, .int .i64 s, .int .i64 n, .int .i64 cn, .int .i64 ci, .int .i64 cs, .int .i64 cm, .int .i64 op, .int .i64 id', .slice a l.length cap] 40)) (.cells #[.int .i64 0, .int .i64 0, .int .i64 0, .int .i64 0, .int .i64 0, .int .i64 0, .int .i64 0, .int .i64 0, .int .i64 0, .slice none 0 0] 45) (.cells #[.int .i64 k, .int .i64 s, .int .i64 n, .int .i64 0, .int .i64 0, .int .i64 0, .int .i64 0, .int .i64 0, .int .i64 0, .slice none 0 0] 45)
    rw [World.size_alloc] at h
    exact h
  have B3 : Below w.heap.size w (((w.alloc (.cells #[.int .i64 k, .int .i64 s, .int .i64 n, .int .i64 cn, .int .i64 ci, .int .i64 cs, .int .i64 cm, .int .i64 op, .int .i64 id', .slice a l.length cap] 40)).alloc (.cells #[.int .i64 0, .int .i64 0, .int .i64 0, .int .i64 0, .int .i64 0, .int .i64 0, .int .i64 0, .int .i64 0, .int .i64 0, .slice none 0 0] 45)).alloc (.cells #[.int .i64 k, .int .i64 s, .int .i64 n, .int .i64 0, .int .i64 0, .int .i64 0, .int .i64 0, .int .i64 0, .int .i64 0, .slice none 0 0] 45)) := (((Below.refl _ _).alloc (Nat.le_refl _) _).alloc (by simp) _).alloc (by simp; omega) _
  have Z3 : w.heap.size + 1 + 1 < (((w.alloc (.cells #[.int .i64 k, .int .i64 s, .int .i64 n, .int .i64 cn, .int .i64 ci, .int .i64 cs, .int .i64 cm, .int .i64 op, .int .i64 id', .slice a l.length cap] 40)).alloc (.cells #[.int .i64 0, .int .i64 0, .int .i64 0, .int .i64 0, .int .i64 0, .int .i64 0, .int .i64 0, .int .i64 0, .int .i64 0, .slice none 0 0] 45)).alloc (.cells #[.int .i64 k, .int .i64 s, .int .i64 n, .int .i64 0, .int .i64 0, .int .i64 0, .int .i64 0, .int .i64 0, .int .i64 0, .slice none 0 0] 45)).heap.size := by simp
  generalize ((w.alloc (.cells #[.int .i64 k, .int .i64 s, .int .i64 n, .int .i64 cn, .int .i64 ci, .int .i64 cs, .int .i64 cm, .int .i64 op, .int .i64 id', .slice a l.length cap] 40)).alloc (.cells #[.int .i64 0, .int .i64 0, .int .i64 0, .int .i64 0, .int .i64 0, .int .i64 0, .int .i64 0, .int .i64 0, .int .i64 0, .slice none 0 0] 45)).alloc (.cells #[.int .i64 k, .int .i64 s, .int .i64 n, .int .i64 0, .int .i64 0, .int .i64 0, .int .i64 0, .int .i64 0, .int .i64 0, .slice none 0 0] 45) = w3 at *
  obtain ⟨g0, hg0⟩ : ∃ g, g = w.heap.size := ⟨_, rfl⟩
  obtain ⟨g1, hg1⟩ : ∃ g, g = w.heap.size + 1 := ⟨_, rfl⟩
  obtain ⟨g2, hg2⟩ : ∃ g, g = w.heap.size + 1 + 1 := ⟨_, rfl⟩
  have L0 := hid (Nat.le_of_eq hg0.symm)
  have L1 := hid (show w.heap.size ≤ g1 by omega)
  have L2 := hid (show w.heap.size ≤ g2 by omega)
  have N02 := hid (show g0 ≠ g2 by omega)
  have N12 := hid (show g1 ≠ g2 by omega)
  have N1 := hid (show g1 < g2 by omega)
  rw [← hg2] at V2 Z3 ⊢
  rw [← hg1] at V1 ⊢
  rw [← hg0] at VA ⊢
  clear hg0 hg1 hg2
  refine (tocl _ _ _ _ _).mono ?_
  rintro e w4 ⟨rfl, hB⟩
  replace VA := hid (var_below hB VA)
  replace V1 := hid (var_below hB V1)
  replace V2 := hid (var_below hB V2)
  replace Z3 := hid (Nat.lt_of_lt_of_le Z3 hB.size)
  replace B3 := hid (B3.trans (hB.mono B3.size))
  clear hB
  obtain ⟨⟨a0, a1, a2, a3, a4, a5, a6, a7, a8, a9⟩, -⟩ := v10_facts VA.out
  obtain ⟨⟨b0, b1, b2, b3, b4, b5, b6, b7, b8, b9⟩, z0, z1, z2, z3, z4, z5, z6, z7, z8, z9⟩ := v10_facts V2.out
  go_wp2_with fail
  replace V2 := hid (v10_cl (y3 := .int .i64 cn) (y4 := .int .i64 ci) (y5 := .int .i64 cs) (y6 := .int .i64 cm) (y7 := .int .i64 op) V2.out)
  replace V1 := hid (v10_cl_other (y3 := .int .i64 cn) (y4 := .int .i64 ci) (y5 := .int .i64 cs) (y6 := .int .i64 cm) (y7 := .int .i64 op) V1.out N12.out)
  replace B3 := hid (below_v10_cl (y3 := .int .i64 cn) (y4 := .int .i64 ci) (y5 := .int .i64 cs) (y6 := .int .i64 cm) (y7 := .int .i64 op) B3.out L2.out)
  replace Z3 := hid (show g2 < (((((w4.setCell ⟨g2, 3, none⟩ (.int .i64 cn)).setCell ⟨g2, 4, none⟩ (.int .i64 ci)).setCell ⟨g2, 5, none⟩ (.int .i64 cs)).setCell ⟨g2, 6, none⟩ (.int .i64 cm)).setCell ⟨g2, 7, none⟩ (.int .i64 op)).heap.size from var_lt V2.out)
  clear VA b0 b1 b2 b3 b4 b5 b6 b7 b8 b9 a0 a1 a2 a3 a4 a5 a6 a7 a8 a9 z0 z1 z2 z3 z4 z5 z6 z7 z8 z9 N02
  generalize (((((w4.setCell ⟨g2, 3, none⟩ (.int .i64 cn)).setCell ⟨g2, 4, none⟩ (.int .i64 ci)).setCell ⟨g2, 5, none⟩ (.int .i64 cs)).setCell ⟨g2, 6, none⟩ (.int .i64 cm)).setCell ⟨g2, 7, none⟩ (.int .i64 op)) = w5 at *
  refine (toKo _ _ l _ (H.out.below B3.out) hl).mono ?_
  rintro e w6 ⟨g3, rfl, hO, hB⟩
  have O4 := hid (hO.mono B3.out.size (Nat.le_refl _))
  have O5 := hid hO
  clear hO O4
  replace V1 := hid (var_below hB V1.out)
  replace V2 := hid (var_below hB V2.out)
  have S5 := hid B3.out.size
  replace B3 := hid (B3.out.trans (hB.mono B3.out.size))
  clear hB H
  obtain ⟨b5, hb5⟩ : ∃ b, b = w5.heap.size := ⟨_, rfl⟩
  rw [← hb5] at O5 Z3 S5
  clear hb5
  obtain ⟨m, hm⟩ : ∃ n, n = l.length := ⟨_, rfl⟩
  rw [← hm] at O5 ⊢
  replace hm := hid hm
  have V1b := hid (v10_ky_other (y8 := .int .i64 id') (y9 := .slice (some ⟨g3, 0, none⟩) m m) V1.out N12.out)
  have V2b := hid (v10_ky (y8 := .int .i64 id') (y9 := .slice (some ⟨g3, 0, none⟩) m m) V2.out)
  have Bb := hid (below_v10_ky (y8 := .int .i64 id') (y9 := .slice (some ⟨g3, 0, none⟩) m m) B3.out L2.out)
  have Ob := hid (ob_ky (y8 := .int .i64 id') (y9 := .slice (some ⟨g3, 0, none⟩) m m) O5.out Z3.out)
  obtain ⟨⟨-, -, -, -, -, -, -, -, b8, b9⟩, -, -, -, -, -, -, -, -, z8, z9⟩ := v10_facts V2.out
  obtain ⟨⟨e0, e1, e2, e3, e4, e5, e6, e7, e8, e9⟩, -⟩ := v10_facts V2b.out
  obtain ⟨⟨c0, c1, c2, c3, c4, c5, c6, c7, c8, c9⟩, f0, f1, f2, f3, f4, f5, f6, f7, f8, f9⟩ := v10_facts V1b.out
  have HS := hid (v10_set (y0 := .int .i64 k) (y1 := .int .i64 s) (y2 := .int .i64 n) (y3 := .int .i64 cn) (y4 := .int .i64 ci) (y5 := .int .i64 cs) (y6 := .int .i64 cm) (y7 := .int .i64 op) (y8 := .int .i64 id') (y9 := .slice (some ⟨g3, 0, none⟩) m m) V1b.out)
  have HB := hid (below_v10 (y0 := .int .i64 k) (y1 := .int .i64 s) (y2 := .int .i64 n) (y3 := .int .i64 cn) (y4 := .int .i64 ci) (y5 := .int .i64 cs) (y6 := .int .i64 cm) (y7 := .int .i64 op) (y8 := .int .i64 id') (y9 := .slice (some ⟨g3, 0, none⟩) m m) (g := g1) Bb.out L1.out)
  have HO := hid (ob_v10 (y0 := .int .i64 k) (y1 := .int .i64 s) (y2 := .int .i64 n) (y3 := .int .i64 cn) (y4 := .int .i64 ci) (y5 := .int .i64 cs) (y6 := .int .i64 cm) (y7 := .int .i64 op) (y8 := .int .i64 id') (y9 := .slice (some ⟨g3, 0, none⟩) m m) (g := g1) Ob.out (by have := N1.out; have := Z3.out; omega))
  clear V1 V2 V1b V2b O5 Ob B3 Bb
  go_wp2
  refine bodyPost_ret (v := .agg #[.int .i64 k, .int .i64 s, .int .i64 n, .int .i64 cn, .int .i64 ci, .int .i64 cs, .int .i64 cm, .int .i64 op, .int .i64 id', .slice (some ⟨g3, 0, none⟩) m m]) (results_cell_row rfl _ _ g1 45 _ _ _ rfl HS.out Try.underlying45 rfl (by kernel_rfl)) rfl ?_
  have HN := hm.out
  subst HN
  exact ⟨g3, rfl, HO.out.mono S5.out (by simp only [size_set]; exact Nat.le_refl _), HB.out⟩
set_option maxHeartbeats 2000000 in
set_option maxRecDepth 100000 in
theorem szMg (k s n cn ci cs cm op id' : Int) (a : Option Addr) (m c : Nat) (left : Int) (w : World) (h0 : 0 ≤ left) (h1 : left ≤ 1048576) (hn : m ≤ maxLen) :
    Calls Try.prog 17 #[.agg #[.int .i64 k, .int .i64 s, .int .i64 n, .int .i64 cn, .int .i64 ci, .int .i64 cs, .int .i64 cm, .int .i64 op, .int .i64 id', .slice a m c], .int .i64 left] w fun e w' => e = .returned (.int .i64 (szN left m)) ∧ Below w.heap.size w w' := by
  go_enter Try.func17, Try.ntmps17
  go_wp2_with fail
  refine (szK _ _ _ _ _ _ h0 h1 hn).mono ?_
  rintro e w' ⟨rfl, hB⟩
  have HB := hid ((below_alloc1 w _).trans (hB.mono (by simp)))
  clear hB
  by_cases h : left - m < 0
  · have E := hid (show szN left m = -1 by rw [szN, if_pos h])
    rw [E.out]
    go_wp2
    go_ret
    exact ⟨ret_cl E.out.symm, HB.out⟩
  · have e : szN left m = left - m := by rw [szN, if_neg h]
    obtain ⟨r, hr⟩ : ∃ r, r = szN left m := ⟨_, rfl⟩
    have g : 0 ≤ r := by rw [hr, e]; omega
    have g1 : (r < 0) = False := by simp; omega
    rw [← hr]
    have E := hid hr
    clear e hr
    go_wp2
    go_ret
    exact ⟨ret_cl E.out, HB.out⟩
set_option maxHeartbeats 2000000 in
set_option maxRecDepth 100000 in
theorem eqCl (a b c d : Int) (w : World) :
    Calls Try.prog 54 #[.agg #[.int .i64 a, .int .i64 b, .int .i64 c, .int .i64 d], .agg #[.int .i64 a, .int .i64 b, .int .i64 c, .int .i64 d]] w fun e w' => e = .returned (.bool true) ∧ Below w.heap.size w w' := by
  go_enter Try.func54, Try.ntmps54
  go_wp2
  go_ret
  exact ⟨rfl, below_alloc2 w _ _⟩
set_option maxHeartbeats 2000000 in
set_option maxRecDepth 100000 in
theorem eqM (k s n cn ci cs cm op id' : Int) (va vb : Value) (l : List Nat) (w : World) (ha : Rd w va l) (hb : Rd w vb l) (hl : l.length ≤ 1048576) :
    Calls Try.prog 21 #[.agg #[.int .i64 k, .int .i64 s, .int .i64 n, .int .i64 cn, .int .i64 ci, .int .i64 cs, .int .i64 cm, .int .i64 op, .int .i64 id', va], .agg #[.int .i64 k, .int .i64 s, .int .i64 n, .int .i64 cn, .int .i64 ci, .int .i64 cs, .int .i64 cm, .int .i64 op, .int .i64 id', vb]] w fun e w' => e = .returned (.bool true) ∧ Below w.heap.size w w' := by
  have HA := hid ha
  have HB := hid hb
  obtain ⟨a, ca, rfl, -, -, -⟩ := ha.parts
  obtain ⟨b, cb, rfl, -, -, -⟩ := hb.parts
  clear ha hb
  go_enter Try.func21, Try.ntmps21
  go_wp2_with fail
  have VA := hid (heap_alloc2_old w (.cells #[.int .i64 k, .int .i64 s, .int .i64 n, .int .i64 cn, .int .i64 ci, .int .i64 cs, .int .i64 cm, .int .i64 op, .int .i64 id', .slice a l.length ca] 45) (.cells #[.int .i64 k, .int .i64 s, .int .i64 n, .int .i64 cn, .int .i64 ci, .int .i64 cs, .int .i64 cm, .int .i64 op, .int .i64 id', .slice b l.length cb] 45))
  have VB := hid (heap_alloc2_new w (.cells #[.int .i64 k, .int .i64 s, .int .i64 n, .int .i64 cn, .int .i64 ci, .int .i64 cs, .int .i64 cm, .int .i64 op, .int .i64 id', .slice a l.length ca] 45) (.cells #[.int .i64 k, .int .i64 s, .int .i64 n, .int .i64 cn, .int .i64 ci, .int .i64 cs, .int .i64 cm, .int .i64 op, .int .i64 id', .slice b l.length cb] 45))
  have BB := hid (below_alloc2 w (.cells #[.int .i64 k, .int .i64 s, .int .i64 n, .int .i64 cn, .int .i64 ci, .int .i64 cs, .int .i64 cm, .int .i64 op, .int .i64 id', .slice a l.length ca] 45) (.cells #[.int .i64 k, .int .i64 s, .int .i64 n, .int .i64 cn, .int .i64 ci, .int .i64 cs, .int .i64 cm, .int .i64 op, .int .i64 id', .slice b l.length cb] 45))
  replace HA := hid (HA.out.below BB.out)
  replace HB := hid (HB.out.below BB.out)
  generalize (w.alloc (.cells #[.int .i64 k, .int .i64 s, .int .i64 n, .int .i64 cn, .int .i64 ci, .int .i64 cs, .int .i64 cm, .int .i64 op, .int .i64 id', .slice a l.length ca] 45)).alloc (.cells #[.int .i64 k, .int .i64 s, .int .i64 n, .int .i64 cn, .int .i64 ci, .int .i64 cs, .int .i64 cm, .int .i64 op, .int .i64 id', .slice b l.length cb] 45) = w0 at *
  obtain ⟨gb, hgb⟩ : ∃ g, g = w.heap.size + 1 := ⟨_, rfl⟩
  obtain ⟨ga, hga⟩ : ∃ g, g = w.heap.size := ⟨_, rfl⟩
  rw [← hgb] at VB ⊢
  rw [← hga] at VA ⊢
  clear hga hgb
  refine (eqCl _ _ _ _ _).mono ?_
  rintro e w1 ⟨rfl, hB⟩
  replace HA := hid (HA.out.below hB)
  replace HB := hid (HB.out.below hB)
  replace VA := hid (var_below hB VA.out)
  replace VB := hid (var_below hB VB.out)
  replace BB := hid (BB.out.trans (hB.mono BB.out.size))
  clear hB
  obtain ⟨⟨-, -, -, -, -, -, -, a7, a8, a9⟩, -⟩ := v10_facts VA.out
  obtain ⟨⟨-, -, -, -, -, -, -, b7, b8, b9⟩, -⟩ := v10_facts VB.out
  go_wp2_with fail
  refine (eqK _ _ _ l _ HA.out HB.out hl).mono ?_
  rintro e w2 ⟨rfl, hB⟩
  replace BB := hid (BB.out.trans (hB.mono BB.out.size))
  clear hB a7 a8 a9 b7 b8 b9 VA VB
  go_wp2
  go_ret
  exact ⟨rfl, BB.out⟩
end Go.Proofs.Ytifgcffifffdnam.W
