/-
  The source that draws inputs for the laws: what the model's l1Source, l1Next and l1Pick answer, as far as a law needs it.
-/
import Derived.Test.YtbfdbicddmffnabBase
namespace Go.Proofs.Ytbfdbicddmffnab.W
open Go.ChangeShapes Go.WideShapes Go.ChangeAt Go.RowKit
open Go.Proofs.Ytbfdbicddmffnab.M

/-- Block g holds a source over the bytes l (the slice v, which was there in w0), at place t. -/
structure Src (w0 w : World) (g : Nat) (v : Value) (l : List Nat) (t : Nat) : Prop where
  rd : Rd w0 v l
  byt : Byt l
  bel : Below w0.heap.size w0 w
  new : w0.heap.size ≤ g
  cells : w.heap[g]? = some (.cells #[v, .int .i64 (t : Int)] 146)

theorem Src.later {w0 w w' : World} {g : Nat} {v : Value} {l : List Nat} {t : Nat} (h : Src w0 w g v l t) (hB : Below w.heap.size w w') : Src w0 w' g v l t :=
  ⟨h.rd, h.byt, h.bel.trans (hB.mono h.bel.size), h.new, var_below hB h.cells⟩

theorem Src.drewN {w0 w : World} {g : Nat} {v : Value} {l : List Nat} {t : Nat} (h : Src w0 w g v l t) (n : Nat) : Src w0 (w.drewN n) g v l t := ⟨h.rd, h.byt, below_drewN h.bel n, h.new, h.cells⟩
theorem grown_drewN {w w' : World} {row : Option Nat} (h : w.grownBy w' row) (n : Nat) : w.grownBy (w'.drewN n) row := ⟨h.os, h.tape, h.output, h.size, h.block⟩

set_option maxRecDepth 100000 in
theorem source (v : Value) (l : List Nat) (w : World) (h : Rd w v l) (y : Byt l) :
    Calls Try.prog 62 #[v] w fun e w' => e = .returned (.pointer (some ⟨w.heap.size, 0, none⟩)) ∧ Src w w' w.heap.size v l 0 := by
  have H := hid h
  obtain ⟨a, cap, rfl, _, _, _⟩ := h.parts
  clear h
  go_enter Try.func62, Try.ntmps62
  go_wp2
  go_ret
  exact ⟨rfl, H.out, y, below_alloc1 w _, Nat.le_refl _, heap_alloc_new w _⟩

theorem mod_facts (t k : Nat) (hk : 0 < k) : (0 : Int) ≤ (t : Int) % (k : Int) ∧ (t : Int) % (k : Int) < (k : Int) ∧ (0 : Int) ≤ (t : Int) / (k : Int) ∧ (t : Int) / (k : Int) ≤ (t : Int) :=
  ⟨Int.emod_nonneg _ (by omega), Int.emod_lt_of_pos _ (by omega), Int.ediv_nonneg (by omega) (by omega), by have := Nat.div_le_self t k; rw [← Int.natCast_ediv]; omega⟩

set_option maxRecDepth 100000 in
theorem next (w0 w : World) (g : Nat) (v : Value) (l : List Nat) (t : Nat) (n : Int) (h : Src w0 w g v l t) (ht : t ≤ 1000000) (hn : n ≤ 4294967296) (hl : l.length ≤ 1048576) :
    Calls Try.prog 75 #[.pointer (some ⟨g, 0, none⟩), .int .i64 n] w fun e w' => ∃ r : Int, e = .returned (.int .i64 r) ∧ (1 ≤ n → 0 ≤ r ∧ r < n) ∧ Src w0 w' g v l (t + 1) ∧ w.grownBy w' (some g) := by
  obtain ⟨hrd, hbyt, hbel, hnew, hcells⟩ := h
  obtain ⟨a, cap, rfl, _, _, hcs⟩ := hrd.parts
  obtain ⟨f1, f2, f3, f4⟩ := var2_facts hcells
  have hset := heap_setCell_same w g 1 _ 146 (.int .i64 ((t + 1 : Nat) : Int)) hcells
  have hgr : w.grownBy (w.setCell ⟨g, 1, none⟩ (.int .i64 ((t + 1 : Nat) : Int))) (some g) := ⟨rfl, rfl, rfl, by simp [World.setCell], fun k _ hk => heap_setCell_other w ⟨g, 1, none⟩ k _ (fun e => hk (by rw [e]))⟩
  have hbel2 : Below w0.heap.size w0 (w.setCell ⟨g, 1, none⟩ (.int .i64 ((t + 1 : Nat) : Int))) := hbel.setCell (p := ⟨g, 1, none⟩) hnew _
  have fin := hid (show Src w0 (w.setCell ⟨g, 1, none⟩ (.int .i64 ((t + 1 : Nat) : Int))) g (.slice a l.length cap) l (t + 1) from ⟨hrd, hbyt, hbel2, hnew, by simpa using hset⟩)
  have HG := hid hgr
  rw [show (((t + 1 : Nat)) : Int) = (t : Int) + 1 by omega] at fin HG
  by_cases h1 : n < 1
  · clear hcs hrd hbyt hbel hcells hset hgr hbel2
    go_enter Try.func75, Try.ntmps75
    go_wp2
    go_ret
    exact ⟨_, rfl, fun q => by omega, fin.out, HG.out⟩
  · have h1' : 1 ≤ n := by omega
    clear h1
    by_cases h2 : l.length = 0
    · have hk : ((l.length : Int) == 0) = true := beq_iff_eq.2 (by omega)
      clear hcs hrd hbyt hbel hcells hset hgr hbel2
      go_enter Try.func75, Try.ntmps75
      go_wp2
      go_ret
      exact ⟨_, rfl, fun _ => ⟨Int.emod_nonneg _ (by omega), Int.emod_lt_of_pos _ (by omega)⟩, fin.out, HG.out⟩
    · have hk : ((l.length : Int) == 0) = false := beq_eq_false_iff_ne.2 (by omega)
      obtain ⟨b, o, rfl, _⟩ := hcs 0 (by omega)
      have hcell : ∀ i (hi : i < l.length), (w.setCell ⟨g, 1, none⟩ (.int .i64 ((t : Int) + 1))).cell? ⟨b, o + i, none⟩ = some (.int .u8 (l[i] : Nat)) := fun i hi => by
        obtain ⟨b', o', e, hc⟩ := hcs i hi
        cases e
        have hlt := World.block_lt_of_cell? w0 _ hc
        simp only at hlt
        have hc' : w.cell? ⟨b, o + i, none⟩ = some (bv l[i]) := (hbel.cell (p := ⟨b, o + i, none⟩) hlt).trans hc
        rw [World.cell?_of_block (w := w) (a := ⟨b, o + i, none⟩) (heap_setCell_other w ⟨g, 1, none⟩ b _ (by show b ≠ g; omega))]
        exact hc'
      obtain ⟨m1, m2, m3, m4⟩ := mod_facts t l.length (by omega)
      have hx0 := hcell (t % l.length) (Nat.mod_lt _ (by omega))
      have y0 := hbyt.at (t % l.length) (Nat.mod_lt _ (by omega))
      generalize l[t % l.length]'(Nat.mod_lt _ (by omega)) = x0 at hx0 y0
      by_cases h3 : n ≤ 200
      · clear hcs hrd hbyt hbel hcells hset hgr hbel2 hcell
        go_enter Try.func75, Try.ntmps75
        go_wp2
        go_quiet (fail)
        go_wp2
        go_ret
        exact ⟨_, rfl, fun _ => ⟨Int.emod_nonneg _ (by omega), Int.emod_lt_of_pos _ (by omega)⟩, fin.out.drewN _, grown_drewN HG.out _⟩
      · obtain ⟨p1, p2, -, -⟩ := mod_facts (t + 1) l.length (by omega)
        rw [show ((t + 1 : Nat) : Int) = (t : Int) + 1 by omega] at p1 p2
        have hx1 := hcell ((t + 1) % l.length) (Nat.mod_lt _ (by omega))
        have y1 := hbyt.at ((t + 1) % l.length) (Nat.mod_lt _ (by omega))
        generalize l[(t + 1) % l.length]'(Nat.mod_lt _ (by omega)) = x1 at hx1 y1
        have a1 : (((t : Int) + 1) % (l.length : Int)).toNat = (t + 1) % l.length := by
          rw [show (t : Int) + 1 = ((t + 1 : Nat) : Int) by omega, ← Int.natCast_emod, Int.toNat_natCast]
        have h3' : 200 < n := by omega
        by_cases h4 : n ≤ 60000
        · clear hcs hrd hbyt hbel hcells hset hgr hbel2 hcell h3
          go_enter Try.func75, Try.ntmps75
          go_wp2
          go_quiet (fail)
          go_wp2
          go_quiet (fail)
          go_wp2
          go_ret
          exact ⟨_, rfl, fun _ => ⟨Int.emod_nonneg _ (by omega), Int.emod_lt_of_pos _ (by omega)⟩, fin.out.drewN _, grown_drewN HG.out _⟩
        · obtain ⟨r1, r2, -, -⟩ := mod_facts (t + 2) l.length (by omega)
          rw [show ((t + 2 : Nat) : Int) = (t : Int) + 2 by omega] at r1 r2
          have hx2 := hcell ((t + 2) % l.length) (Nat.mod_lt _ (by omega))
          have y2 := hbyt.at ((t + 2) % l.length) (Nat.mod_lt _ (by omega))
          generalize l[(t + 2) % l.length]'(Nat.mod_lt _ (by omega)) = x2 at hx2 y2
          have a2 : (((t : Int) + 2) % (l.length : Int)).toNat = (t + 2) % l.length := by
            rw [show (t : Int) + 2 = ((t + 2 : Nat) : Int) by omega, ← Int.natCast_emod, Int.toNat_natCast]
          have h4' : 60000 < n := by omega
          clear hcs hrd hbyt hbel hcells hset hgr hbel2 hcell h3 h4
          go_enter Try.func75, Try.ntmps75
          go_wp2
          go_quiet (fail)
          go_wp2
          go_quiet (fail)
          go_wp2
          go_quiet (fail)
          go_wp2
          go_ret
          exact ⟨_, rfl, fun _ => ⟨Int.emod_nonneg _ (by omega), Int.emod_lt_of_pos _ (by omega)⟩, fin.out.drewN _, grown_drewN HG.out _⟩

/-- A draw out of a list that the call itself has laid. -/
def Lst (w : World) (g : Nat) (xs : List Int) : Prop := w.heap[g]? = some (.cells (xs.map (Value.int .i64)).toArray 2)

set_option maxRecDepth 100000 in
theorem pick (w0 w : World) (g q : Nat) (v : Value) (l : List Nat) (t : Nat) (xs : List Int) (h : Src w0 w g v l t) (ht : t ≤ 1000000) (hl : l.length ≤ 1048576) (hx : Lst w q xs) (hq : q ≠ g) (hn : 0 < xs.length) (hm : xs.length ≤ 1000) :
    Calls Try.prog 52 #[.pointer (some ⟨g, 0, none⟩), .slice (some ⟨q, 0, none⟩) xs.length xs.length] w fun e w' => ∃ x : Int, x ∈ xs ∧ e = .returned (.int .i64 x) ∧ Src w0 w' g v l (t + 1) ∧ w.grownBy w' (some g) := by
  have N := hid (next w0 w g v l t (xs.length : Int) h ht (by omega) hl)
  have HX := hid hx
  clear h hx
  go_enter Try.func52, Try.ntmps52
  go_wp2_with fail
  refine N.out.mono ?_
  rintro e w' ⟨r, rfl, hr, hS, hG⟩
  obtain ⟨r0, r1⟩ := hr (by omega)
  obtain ⟨j, rfl⟩ : ∃ j : Nat, r = j := ⟨r.toNat, by omega⟩
  have hc : w'.cell? ⟨q, j, none⟩ = some (.int .i64 (xs[j]'(by omega))) := by
    have hb := var_grown hG (show w.heap[q]? = _ from HX.out) (fun e => hq (Option.some.inj e))
    rw [cell_of_row w' q j _ _ _ hb]
    simp [show j < xs.length by omega]
  have HM := hid (List.getElem_mem (l := xs) (show j < xs.length by omega))
  generalize xs[j]'(by omega) = x at *
  have HS := hid hS
  have HGG := hid hG
  clear hS hG N
  go_wp2
  go_ret
  exact ⟨x, HM.out, rfl, HS.out, HGG.out⟩
theorem pick' (w0 w : World) (g q n : Nat) (v : Value) (l : List Nat) (t : Nat) (xs : List Int) (h : Src w0 w g v l t) (ht : t ≤ 1000000) (hl : l.length ≤ 1048576) (hx : Lst w q xs) (hq : q ≠ g) (hn : xs.length = n) (h0 : 0 < n) (hm : n ≤ 1000) :
    Calls Try.prog 52 #[.pointer (some ⟨g, 0, none⟩), .slice (some ⟨q, 0, none⟩) n n] w fun e w' => ∃ x : Int, x ∈ xs ∧ e = .returned (.int .i64 x) ∧ Src w0 w' g v l (t + 1) ∧ w.grownBy w' (some g) := by
  subst hn
  exact pick w0 w g q v l t xs h ht hl hx hq h0 hm
end Go.Proofs.Ytbfdbicddmffnab.W
