/-
  What slices.Insert answers of a slice of claims that is the call's own and one claim, ahead of its end: with room, and without.
-/
import Derived.Test.YtbleikbmnkjbeacVwIn
import Derived.Shelf.RegionOpenPlain
namespace Go.Proofs.Ytbleikbmnkjbeac.W
open Go.ChangeShapes Go.WideShapes Go.ChangeAt Go.RowKit Go.Lib
open Go.Proofs.Ytbleikbmnkjbeac.M

theorem ov_no (w : World) (vb g o la ca lb cb : Nat) (c : Clm) (cur : Array Value) (hc : w.heap[vb]? = some (.cells #[.int .i64 c.n, .int .i64 c.i, .int .i64 c.s, .int .i64 c.m] 45)) (hg : w.heap[g]? = some (.cells cur 45 (0, 0))) (hk : cur.size ≠ 0) (hne : vb ≠ g) :
    (callFunc 171 #[.slice (some ⟨vb, 0, none⟩) la ca, .slice (some ⟨g, o, none⟩) lb cb]).run Try.prog w = .ok (.value (.bool false)) w := by
  obtain ⟨i0, hi, hz0, hz1, hz2⟩ := info_parts infoC
  rw [run_callFunc_extern Try.func171 (by kernel_rfl) (by kernel_rfl) (by kernel_rfl) (e := Extern.SlicesOverlaps.overlaps #[71, 71] #[4]) (by kernel_rfl),
    Lib.run_overlaps_apart w 71 4 45 Try.underlying71 4 (fun w => by simp [sizeOf, typeInfo, hi, hz1]) ⟨vb, 0, none⟩ ⟨g, o, none⟩ la ca lb cb hne 45 45 4 cur.size (by simp [World.shape?, hc]) (by simp [World.shape?, hg]) hk (by simp [World.frozen?, hc]) (by simp [World.frozen?, hc])]
  rfl
theorem row_own {w : World} {base g cap n : Nat} {L : List Value} {ds : List Clm} (hg : w.heap[g]? = some (.cells L.toArray 45 (0, 0))) (hb : base ≤ g) (hn : n = ds.length) (hc : n ≤ cap) (hm : cap ≤ maxLen) (hs : L.length = cap * 4) (ht : L.take (n * 4) = rowC ds) : OwC w base (.slice (some ⟨g, 0, none⟩) n cap) ds := by
  subst hn
  exact ⟨by rw [rowC_len], .inr ⟨g, cap, L.toArray, rfl, hb, hg, hc, hm, by simpa using hs, by simpa using ht⟩⟩
set_option maxHeartbeats 4000000 in
set_option maxRecDepth 100000 in
theorem insR (cs : List Clm) (c : Clm) (i g cap base vb : Nat) (w : World) (h : OwC w base (.slice (some ⟨g, 0, none⟩) cs.length cap) cs) (hc : w.heap[vb]? = some (.cells #[.int .i64 c.n, .int .i64 c.i, .int .i64 c.s, .int .i64 c.m] 45)) (hne : vb ≠ g) (hi : i < cs.length) (hcap : cs.length < cap) :
    Calls Try.prog 157 #[.slice (some ⟨g, 0, none⟩) cs.length cap, .int .i64 (i : Int), .slice (some ⟨vb, 0, none⟩) 1 1] w
      fun e w' => e = .returned (.slice (some ⟨g, 0, none⟩) (cs.length + 1) cap) ∧ OwC w' base (.slice (some ⟨g, 0, none⟩) (cs.length + 1) cap) (cs.take i ++ c :: cs.drop i) ∧ w.grownBy w' (some g) := by
  obtain ⟨cur, hbg, hg, hm, hs, ht⟩ : ∃ cur : Array Value, base ≤ g ∧ w.heap[g]? = some (.cells cur 45 (0, 0)) ∧ cap ≤ maxLen ∧ cur.size = cap * 4 ∧ cur.toList.take (cs.length * 4) = rowC cs := by
    rcases h.2 with ⟨e, -⟩ | ⟨g', cap', cur, e, hbb, hgg, hn, hm, hs, ht⟩
    · cases e
    · cases e; exact ⟨cur, hbb, hgg, hm, hs, ht⟩
  obtain ⟨L, hL⟩ : ∃ L, L = cur.toList := ⟨_, rfl⟩
  have hcL : cur = L.toArray := by rw [hL]
  have hLs : L.length = cap * 4 := by rw [hL]; simpa using hs
  rw [← hL] at ht
  subst hcL
  have OV := fun (o lb cb : Nat) => ov_no w vb g o 1 1 lb cb c L.toArray hc hg (by simp; intro e; rw [e] at hLs; simp at hLs; omega) hne
  have hmx : cap ≤ 9223372036854775807 := by unfold maxLen at hm; omega
  have X1 := hid (show ∀ j u, (rowC (cs.drop i))[j]? = some u → w.cell? ((⟨g, i * 4, none⟩ : Addr).add j) = some u from fun j u hj => by
    rw [← rowC_drop, List.getElem?_drop] at hj
    have hlt : i * 4 + j < cs.length * 4 := by
      rcases Nat.lt_or_ge (i * 4 + j) (cs.length * 4) with q | q
      · exact q
      · rw [List.getElem?_eq_none (by rw [rowC_len]; exact q)] at hj
        cases hj
    rw [Addr.add_lit, cell_of_row w g _ _ _ _ hg]
    rw [← ht, List.getElem?_take, if_pos hlt] at hj
    simpa using hj)
  have P1 := hid hg
  have V1 := hid hc
  have mixed : Try.prog.follows Departure.mixedOrders = true := by kernel_rfl
  have hw1 : IntKind.i64.wrap ((i : Int) + 1) = (i : Int) + 1 := by rw [IntKind.wrap_i64]; omega
  have hb1 : (0 : Int) ≤ (i : Int) + 1 := by omega
  have htn : ((i : Int) + 1).toNat = i + 1 := by omega
  have hb2 : ¬ (cap = i + 1) := by omega
  have hb3 : (i : Int) ≤ (cs.length : Int) + 1 := by omega
  have hb4 : ¬ (cap = i) := by omega
  have hb5 : i ≤ cs.length := by omega
  clear h hc hg hL
  go_enter Try.func157, Try.ntmps157
  go_wp2_with (simp only [OV])
  have m1 := hid (show (rowC (cs.drop i)).length = Nat.min (cs.length + 1 - i) (cs.length - i) * 4 by
    rw [rowC_len, List.length_drop]
    show _ = min _ _ * 4
    omega)
  have m2 := hid (show (i + 1) * 4 + (rowC (cs.drop i)).length ≤ L.length by
    rw [rowC_len, List.length_drop]
    omega)
  go_region_law_o (refine step_cp4 rfl _ _ rfl g ((i + 1) * 4) (cs.length - i) (cap - (i + 1)) ⟨g, i * 4, none⟩ (cs.length + 1 - i) (cap - i) (by simp [Act.eval, Act.put]) (by simp [Act.eval, Act.put]) L 45 P1.out (rowC (cs.drop i)) m1.out X1.out m2.out (rowC_one _) ?_; intro w2 hg2 hG2)
  have V2 := hid (var_grown hG2 (show w.drew.heap[vb]? = _ from V1.out) (fun e => hne (Option.some.inj e)))
  have m3 := hid (show (crow c).length = Nat.min 1 (cs.length + 1 - i) * 4 by
    rw [crow_len]
    show _ = min _ _ * 4
    omega)
  have m4 := hid (show i * 4 + (crow c).length ≤ (splice L ((i + 1) * 4) (rowC (cs.drop i))).length by
    have := m2.out
    rw [length_splice _ _ _ this, crow_len]
    omega)
  have X2 := hid (show ∀ j u, (crow c)[j]? = some u → w2.cell? ((⟨vb, 0, none⟩ : Addr).add j) = some u from fun j u hj => by
    rw [Addr.add_lit]
    exact one_row V2.out j u (by simpa [rowC] using hj))
  have m5 := hid (show ∀ u ∈ crow c, u.oneCell' = true from fun u hu => rowC_one [c] u (by simpa [rowC] using hu))
  go_wp2_with (refine list_cp4 rfl _ _ rfl g (i * 4) (cs.length + 1 - i) (cap - i) ⟨vb, 0, none⟩ 1 1 rfl rfl (splice L ((i + 1) * 4) (rowC (cs.drop i))) 45 hg2.out (crow c) m3.out X2.out m4.out m5.out ?_; intro w3 hg3 hG3)
  have hLt : L.take (i * 4) = rowC (cs.take i) := by
    have : (L.take (cs.length * 4)).take (i * 4) = (rowC cs).take (i * 4) := by rw [ht]
    rw [List.take_take, Nat.min_eq_left (by omega), rowC_take] at this
    exact this
  have F := hid (show OwC w3 base (.slice (some ⟨g, 0, none⟩) (cs.length + 1) cap) (cs.take i ++ c :: cs.drop i) from
    row_own hg3.out hbg (by simp; omega) (by omega) hm (by
      have q1 := m2.out
      have q2 := m4.out
      rw [length_splice _ _ _ q2, length_splice _ _ _ q1, hLs]) (by
      have e1 := splice_two L (crow c) (rowC (cs.drop i)) (i * 4) (by have q := m2.out; rw [crow_len]; omega)
      rw [crow_len, show i * 4 + 4 = (i + 1) * 4 by omega] at e1
      rw [e1]
      exact row_put (by omega) hLt _))
  have G := hid (grown_trans (show w.grownBy w2 (some g) from ⟨hG2.os, hG2.tape, hG2.output, hG2.size, hG2.block⟩) hG3)
  clear hg2 hG2 hg3 hG3
  go_wp2
  go_ret
  exact ⟨rfl, F.out, G.out⟩
end Go.Proofs.Ytbleikbmnkjbeac.W
