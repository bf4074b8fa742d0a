/-
  What slices.Insert answers of a slice of claims that is the call's own and one claim, ahead of its end, where there is no room.
-/
import Derived.Test.YtbleikbmnkjbeacVwIr
namespace Go.Proofs.Ytbleikbmnkjbeac.W
open Go.ChangeShapes Go.WideShapes Go.ChangeAt Go.RowKit Go.Lib
open Go.Proofs.Ytbleikbmnkjbeac.M

theorem zc4 (n : Nat) : (Builtin.zeroCells (Value.agg #[.int .i64 0, .int .i64 0, .int .i64 0, .int .i64 0]).cells n).size = n * 4 := by simp [Builtin.zeroCells, Value.cells]
set_option maxHeartbeats 4000000 in
set_option maxRecDepth 100000 in
theorem insG (cs : List Clm) (c : Clm) (i g base vb : Nat) (w : World) (h : OwC w base (.slice (some ⟨g, 0, none⟩) cs.length cs.length) cs) (hc : w.heap[vb]? = some (.cells #[.int .i64 c.n, .int .i64 c.i, .int .i64 c.s, .int .i64 c.m] 45)) (hi : i < cs.length) (hl : cs.length ≤ 4) (hb : base ≤ w.heap.size) :
    Calls Try.prog 157 #[.slice (some ⟨g, 0, none⟩) cs.length cs.length, .int .i64 (i : Int), .slice (some ⟨vb, 0, none⟩) 1 1] w
      fun e w' => ∃ g' cap, e = .returned (.slice (some ⟨g', 0, none⟩) (cs.length + 1) cap) ∧ OwC w' base (.slice (some ⟨g', 0, none⟩) (cs.length + 1) cap) (cs.take i ++ c :: cs.drop i) ∧ w.grownBy w' (some g) := by
  obtain ⟨cur, hbg, hg, hs, ht⟩ : ∃ cur : Array Value, base ≤ g ∧ w.heap[g]? = some (.cells cur 45 (0, 0)) ∧ cur.size = cs.length * 4 ∧ cur.toList.take (cs.length * 4) = rowC cs := by
    rcases h.2 with ⟨e, -⟩ | ⟨g', cap', cur, e, hbb, hgg, hn, hm, hs, ht⟩
    · cases e
    · cases e; exact ⟨cur, hbb, hgg, hs, ht⟩
  obtain ⟨i0, hi0, hz0, hz1, hz2⟩ := info_parts infoC
  have hcells : ∀ j v, (rowC cs)[j]? = some v → w.cell? ⟨g, j, none⟩ = some v := fun j v hj => by
    have hlt : j < cs.length * 4 := by
      rcases Nat.lt_or_ge j (cs.length * 4) with q | q
      · exact q
      · rw [List.getElem?_eq_none (by rw [rowC_len]; exact q)] at hj
        cases hj
    rw [cell_of_row w g _ _ _ _ hg]
    rw [← ht, List.getElem?_take, if_pos hlt] at hj
    simpa using hj
  have hold : (Builtin.firstCells i0.size i (.slice (some ⟨g, 0, none⟩) i cs.length)).run Try.prog w.drew = .ok (rowC (cs.take i)).toArray w.drew := by
    have hl2 := run_loadCells_list (P := Try.prog) w.drew ⟨g, 0, none⟩ (rowC (cs.take i)) (fun j v hj => by
      rw [Addr.add_lit, Nat.zero_add]
      refine hcells j v ?_
      rw [← rowC_take, List.getElem?_take] at hj
      split at hj
      · exact hj
      · cases hj)
    rw [rowC_len, List.length_take, Nat.min_eq_left (by omega)] at hl2
    simpa [Builtin.firstCells, hz1] using hl2
  have hkk : ((cs.length : Int) + 1 - (i : Int)) = ((cs.length + 1 - i : Nat) : Int) := by omega
  have hik : i + (cs.length + 1 - i) = cs.length + 1 := by omega
  have hcap : Builtin.nextslicecap (cs.length + 1) cs.length * 32 ≤ 281474976710656 := by
    have : ∀ n : Nat, n ≤ 4 → Builtin.nextslicecap (n + 1) n * 32 ≤ 281474976710656 := by decide +kernel
    exact this _ hl
  have hrz : ∀ ty, (Builtin.append_ #[71, 3] ty #[.slice (some ⟨g, 0, none⟩) i cs.length, .int .i64 ((cs.length : Int) + 1 - (i : Int))]).run Try.prog w =
      .ok (.slice (some ⟨w.heap.size, 0, none⟩) (cs.length + 1) (grownCap w (cs.length + 1) cs.length 45)) (w.drew.alloc (.cells ((rowC (cs.take i)).toArray ++ Builtin.zeroCells (Value.agg #[.int .i64 0, .int .i64 0, .int .i64 0, .int .i64 0]).cells (cs.length + 1 - i) ++ Builtin.zeroCells (Value.agg #[.int .i64 0, .int .i64 0, .int .i64 0, .int .i64 0]).cells (grownCap w (cs.length + 1) cs.length 45 - (cs.length + 1))) 45)) := fun ty => by
    have h := Lib.run_append_grow_zeros w 71 3 ty 45 i0 _ .i64 .i64 Try.underlying71 Try.underlying3 hi0 hz0 (some ⟨g, 0, none⟩) i cs.length (rowC (cs.take i)) hold (cs.length + 1 - i) (by omega) (by rw [hz1]; omega) (by omega) (by omega) (by rw [hz2]; omega) (by rw [hik, hz2]; exact hcap)
    rw [hik] at h
    rw [hkk]
    exact h
  obtain ⟨G, hG⟩ : ∃ G, G = grownCap w (cs.length + 1) cs.length 45 := ⟨_, rfl⟩
  have hGn : cs.length + 1 ≤ G := by rw [hG]; exact grownCap_ge w _ _ _
  have hGm : G ≤ maxLen := by
    rw [hG]
    exact grownCap_le_maxLen w (cs.length + 1) cs.length 45 (by unfold maxLen; omega)
  have hG63 : G ≤ 9223372036854775807 := by unfold maxLen at hGm; omega
  obtain ⟨L, hL⟩ : ∃ L : List Value, L = rowC (cs.take i) ++ (Builtin.zeroCells (Value.agg #[.int .i64 0, .int .i64 0, .int .i64 0, .int .i64 0]).cells (cs.length + 1 - i)).toList ++ (Builtin.zeroCells (Value.agg #[.int .i64 0, .int .i64 0, .int .i64 0, .int .i64 0]).cells (G - (cs.length + 1))).toList := ⟨_, rfl⟩
  have eL : (rowC (cs.take i)).toArray ++ Builtin.zeroCells (Value.agg #[.int .i64 0, .int .i64 0, .int .i64 0, .int .i64 0]).cells (cs.length + 1 - i) ++ Builtin.zeroCells (Value.agg #[.int .i64 0, .int .i64 0, .int .i64 0, .int .i64 0]).cells (G - (cs.length + 1)) = L.toArray := by
    rw [hL]
    apply Array.ext'
    simp
  rw [← hG, eL] at hrz
  have hLs : L.length = G * 4 := by
    rw [hL]
    simp only [List.length_append, rowC_len, Array.length_toList, zc4, List.length_take]
    omega
  have hLt : L.take (i * 4) = rowC (cs.take i) := by
    rw [hL, List.append_assoc, List.take_append_of_le_length (by rw [rowC_len, List.length_take]; omega), List.take_of_length_le (by rw [rowC_len, List.length_take]; omega)]
  have P1 := hid (show (w.drew.alloc (.cells L.toArray 45)).heap[w.heap.size]? = some (.cells L.toArray 45 (0, 0)) from heap_alloc_new w.drew _)
  have V1 := hid (show (w.drew.alloc (.cells L.toArray 45)).heap[vb]? = _ from var_alloc (W := w.drew) _ hc)
  have R1 := hid (show (w.drew.alloc (.cells L.toArray 45)).heap[g]? = _ from var_alloc (W := w.drew) _ hg)
  have gA := hid (show w.grownBy (w.drew.alloc (.cells L.toArray 45)) (some g) from by
    have := below_alloc1 w.drew (.cells L.toArray 45)
    exact ⟨this.os, this.tape, this.output, this.size, fun k hk _ => this.block k hk⟩)
  have hgw : g < w.heap.size := var_lt hg
  have hvw : vb < w.heap.size := var_lt hc
  have SZ := hid (show w.heap.size < (w.drew.alloc (.cells L.toArray 45)).heap.size from by
    show w.heap.size < (w.alloc (.cells L.toArray 45)).heap.size
    simp)
  have mixed : Try.prog.follows Departure.mixedOrders = true := by kernel_rfl
  have hw1 : IntKind.i64.wrap ((i : Int) + 1) = (i : Int) + 1 := by rw [IntKind.wrap_i64]; omega
  have hb1 : (0 : Int) ≤ (i : Int) + 1 := by omega
  have htn : ((i : Int) + 1).toNat = i + 1 := by omega
  have hGi : ¬ (G = i) := by omega
  have hGim : ¬ (G = i + 1) := by omega
  have hci : ¬ (cs.length = i) := by omega
  have hb3 : (i : Int) ≤ (cs.length : Int) := by omega
  have hb5 : i ≤ cs.length := by omega
  clear h hc hg hL hG eL hold hkk hik hcap hi0 hz0 hz1 hz2
  go_enter Try.func157, Try.ntmps157
  have m1 := hid (show (crow c).length = Nat.min 1 (cs.length + 1 - i) * 4 by
    rw [crow_len]
    show _ = min _ _ * 4
    omega)
  have m2 := hid (show i * 4 + (crow c).length ≤ L.length by
    rw [crow_len]
    omega)
  have X1 := hid (show ∀ j u, (crow c)[j]? = some u → (w.drew.alloc (.cells L.toArray 45)).cell? ((⟨vb, 0, none⟩ : Addr).add j) = some u from fun j u hj => by
    rw [Addr.add_lit]
    exact one_row V1.out j u (by simpa [rowC] using hj))
  have m5 := hid (show ∀ u ∈ crow c, u.oneCell' = true from fun u hu => rowC_one [c] u (by simpa [rowC] using hu))
  go_wp2_with (first
    | (at_builtin; refine Lib.wpList_append_run _ rfl _ _ _ _ rfl _ _ rfl rfl _ _ (hrz _) ?_)
    | (refine list_cp4 rfl _ _ rfl w.heap.size (i * 4) (cs.length + 1 - i) (G - i) ⟨vb, 0, none⟩ 1 1 rfl rfl L 45 P1.out (crow c) m1.out X1.out m2.out m5.out ?_; intro w2 hg2 hG2))
  have R2 := hid (show w2.heap[g]? = _ from var_grown hG2 (show (w.alloc (.cells L.toArray 45)).drew.heap[g]? = _ from R1.out) (fun e => by have := Option.some.inj e; omega))
  have X2 := hid (show ∀ j u, (rowC (cs.drop i))[j]? = some u → w2.cell? ((⟨g, i * 4, none⟩ : Addr).add j) = some u from fun j u hj => by
    rw [← rowC_drop, List.getElem?_drop] at hj
    have hlt : i * 4 + j < cs.length * 4 := by
      rcases Nat.lt_or_ge (i * 4 + j) (cs.length * 4) with q | q
      · exact q
      · rw [List.getElem?_eq_none (by rw [rowC_len]; exact q)] at hj
        cases hj
    rw [Addr.add_lit, cell_of_row w2 g _ _ _ _ R2.out]
    rw [← ht, List.getElem?_take, if_pos hlt] at hj
    simpa using hj)
  have m3 := hid (show (rowC (cs.drop i)).length = Nat.min (cs.length - i) (cs.length - i) * 4 by
    rw [rowC_len, List.length_drop]
    show _ = min _ _ * 4
    omega)
  have m4 := hid (show (i + 1) * 4 + (rowC (cs.drop i)).length ≤ (splice L (i * 4) (crow c)).length by
    have := m2.out
    rw [length_splice _ _ _ this, rowC_len, List.length_drop]
    omega)
  go_region_law_o (refine step_cp4 rfl _ _ rfl w.heap.size ((i + 1) * 4) (cs.length - i) (G - (i + 1)) ⟨g, i * 4, none⟩ (cs.length - i) (cs.length - i) (by simp [Act.eval, Act.put]) (by simp [Act.eval, Act.put]) (splice L (i * 4) (crow c)) 45 hg2.out (rowC (cs.drop i)) m3.out X2.out m4.out (rowC_one _) ?_; intro w3 hg3 hG3)
  have F := hid (show OwC w3 base (.slice (some ⟨w.heap.size, 0, none⟩) (cs.length + 1) G) (cs.take i ++ c :: cs.drop i) from
    row_own hg3.out hb (by simp; omega) (by omega) hGm (by
      have q1 := m2.out
      have q2 := m4.out
      rw [length_splice _ _ _ q2, length_splice _ _ _ q1, hLs]) (by
      have e1 := splice_two' L (crow c) (rowC (cs.drop i)) (i * 4) (by rw [crow_len, rowC_len, List.length_drop]; omega)
      rw [crow_len, show i * 4 + 4 = (i + 1) * 4 by omega] at e1
      rw [e1]
      exact row_put (by omega) hLt _))
  have gF := hid (show w.grownBy w3 (some g) from by
    have g1 : (w.alloc (.cells L.toArray 45)).drew.grownBy w2 (some w.heap.size) := hG2
    have g2 : w2.grownBy w3 (some w.heap.size) := ⟨hG3.os, hG3.tape, hG3.output, hG3.size, hG3.block⟩
    have g0 := gA.out
    exact ⟨g2.os.trans (g1.os.trans g0.os), g2.tape.trans (g1.tape.trans g0.tape), g2.output.trans (g1.output.trans g0.output), Nat.le_trans g0.size (Nat.le_trans g1.size g2.size), fun k hk hne => by
      have a0 := g0.block k hk hne
      have a1 := g1.block k (Nat.lt_of_lt_of_le hk g0.size) (fun e => by have := Option.some.inj e; omega)
      have a2 := g2.block k (Nat.lt_of_lt_of_le hk (Nat.le_trans g0.size g1.size)) (fun e => by have := Option.some.inj e; omega)
      exact a2.trans (a1.trans a0)⟩)
  clear hg2 hG2 hg3 hG3
  go_wp2
  go_ret
  exact ⟨_, _, rfl, F.out, gF.out⟩
end Go.Proofs.Ytbleikbmnkjbeac.W
