/-
  The xor of slices of bytes: XorBytes of the model and of the program.
-/
import Derived.Test.YthkicdgkhlkndaaInWalks
import Derived.Test.YthkicdgkhlkndaaXor
import Derived.Deep.RegionHeld3
import Derived.Deep.AppendLies
namespace Go.Proofs.Ythkicdgkhlkndaa.W
open Go.ChangeShapes Go.WideShapes Go.ChangeAt Go.RowKit
open Go.Proofs.Ythkicdgkhlkndaa.M

set_option maxRecDepth 100000 in
theorem ixb_ok (va vb : Value) (la lb : List Nat) (w : World) (ha : Rd w va la) (hb : Rd w vb lb) (ya : Byt la) (yb : Byt lb) (h1 : la.length ≤ 800) (h2 : la.length = lb.length) :
    Calls Try.prog 19 #[va, vb] w fun e w' => ∃ v, e = .returned (.agg #[.int .i64 0, v]) ∧ Own w' w.heap.size v (xl la lb) ∧ Below w.heap.size w w' := by
  obtain ⟨a, capa, rfl, _, _, hca⟩ := ha.parts
  obtain ⟨b, capb, rfl, _, _, hcb⟩ := hb.parts
  rw [← h2]
  have HCA := hid hca
  have HCB := hid hcb
  have H2 := hid h2
  clear hca hcb ha hb h2
  have hin : inB (la.length : Int) 0 800 = true := by unfold inB; simp; omega
  obtain ⟨i0, hi, hz0, hz1, hz2⟩ := info_parts info8
  go_enter Try.func19, Try.ntmps19
  go_wp2_with fail
  refine (within1 _ _ _ _ _ (heap_alloc2_new w _ _)).mono ?_
  rintro e w1 ⟨rfl, hB⟩
  have hv : w1.heap[w.heap.size]? = some (.cells #[.int .i64 0, .slice none 0 0] 33) := by rw [hB.block _ (by simp; omega)]; exact heap_alloc2_old w _ _
  have hsz : w.heap.size < w1.heap.size := (Array.getElem?_eq_some_iff.1 hv).1
  have hb1 : Below w.heap.size w w1 := (below_alloc2 w _ _).trans (hB.mono (by simp; omega))
  clear hB
  go_wp2_with (at_make; refine wpList_make_full _ rfl _ _ 22 rfl w1.heap.size 5 i0 (.int .u8 0) 1 Try.underlying22 hi hz0 hz1 .i64 .i64 _ _ la.length rfl rfl rfl rfl (by rw [hz2]; omega) (by unfold maxLen; omega) (Nat.le_refl _) ?_; intro w0 hown0 hgrow0)
  have hown1 := own_made w1 w0 la.length hown0
  have hb0 := below_of_grown hgrow0 (Nat.le_refl _) (fun k hk => by simp at hk)
  clear hown0 hgrow0 hi hz0 hz1 hz2 hin
  go_loopw [6, 25] (fun i' i wr => ∃ k : Nat, ∃ u : Value, k ≤ la.length ∧ i = .int .i64 k ∧ i' = u ∧ Own wr w1.heap.size (.slice (some ⟨w1.heap.size, 0, none⟩) la.length la.length) (front (xl la lb) k) ∧ Below w1.heap.size w1 wr) (fun _ i _ => la.length - (intOf i).toNat)
  case atStart => exact ⟨0, _, by omega, rfl, rfl, by rw [front_zero, xl_len]; exact hown1, hb0⟩
  case round =>
    obtain ⟨k, u, hk, rfl, rfl, hown, hb⟩ := hrel
    by_cases hlt : k < la.length
    · obtain ⟨ba, oa, rfl, ca⟩ := HCA.out k hlt
      obtain ⟨bb, ob, rfl, cb⟩ := HCB.out k (by have := H2.out; omega)
      have na : ba ≠ w1.heap.size := by have := World.block_lt_of_cell? w _ ca; simp only at this; omega
      have nb : bb ≠ w1.heap.size := by have := World.block_lt_of_cell? w _ cb; simp only at this; omega
      have ca := cell_kept (hb1.trans (hb.mono (by omega))) ca
      have cb := cell_kept (hb1.trans (hb.mono (by omega))) cb
      have KA := hid (cell_set_far (g := w1.heap.size) (k := k) ca na)
      have KB := hid (cell_set_far (g := w1.heap.size) (k := k) cb nb)
      have hl1 : (front (xl la lb) k).length = la.length := by rw [front_len _ _ (by rw [xl_len]; omega), xl_len]
      have hc2 : ∃ u, wr.cell? ⟨w1.heap.size, k, none⟩ = some u := ⟨_, hown.cell hl1 k (by omega)⟩
      obtain ⟨u, hc2⟩ := hc2
      have hf2 := hown.open hl1 k
      have hx := ya.at k hlt
      have hk2 : k < lb.length := by have := H2.out; omega
      have hy := yb.at k hk2
      have hs := hown.stored hl1 k ((xl la lb)[k]'(by rw [xl_len]; exact hlt))
      rw [front_set (xl la lb) k (by rw [xl_len]; exact hlt), xl_at la lb k _ hlt hk2] at hs
      have hb2 := hb.setCell (p := ⟨w1.heap.size, k, none⟩) (Nat.le_refl _) (bv (la[k] ^^^ lb[k]))
      unfold bv at ca cb hs hb2 KA KB
      rw [← xor8' _ _ hx hy] at hs hb2
      generalize la[k] = x at *
      generalize lb[k] = y at *
      clear hown hb hv hb1 hown1 hb0 hk2
      go_wp2
      go_region_held3 (fun w' => w'.cell? ⟨ba, oa + k, none⟩ = some (.int .u8 (x : Nat)) ∧ w'.cell? ⟨bb, ob + k, none⟩ = some (.int .u8 (y : Nat))) (first | exact ⟨ca, cb⟩ | exact ⟨KA.out _, KB.out _⟩) (fail)
      go_wp2
      go_roundw
      case rel => exact ⟨k + 1, _, by omega, by go_num, rfl, hs.1, hb2.drew⟩
      case measure => simp [intOf]; omega
    · have hk8 : k = la.length := by omega
      subst hk8
      rw [show la.length = (xl la lb).length from (xl_len la lb).symm, front_end, xl_len] at hown
      have hv2 : wr.heap[w.heap.size]? = some (.cells #[.int .i64 0, .slice none 0 0] 33) := by rw [hb.block _ hsz]; exact hv
      obtain ⟨f1, f2, f3, f4⟩ := var2_facts hv2
      have hset := var2_set (x' := .int .i64 0) (y' := .slice (some ⟨w1.heap.size, 0, none⟩) la.length la.length) hv2
      have hbel := below_set2 (x := .int .i64 0) (y := .slice (some ⟨w1.heap.size, 0, none⟩) la.length la.length) (hb1.trans (hb.mono (by omega))) (Nat.le_refl _)
      have hown2 := (hown.set2 (g := w.heap.size) (x := .int .i64 0) (y := .slice (some ⟨w1.heap.size, 0, none⟩) la.length la.length) hsz).mono (base' := w.heap.size) (by omega)
      clear hv hv2 hown hb hb1 hown1 hb0
      go_wp2
      exact bodyPost_ret (v := .agg #[.int .i64 0, .slice (some ⟨w1.heap.size, 0, none⟩) la.length la.length]) (results_cell_row rfl _ _ w.heap.size 33 _ _ _ rfl hset Try.underlying33 rfl (by kernel_rfl)) rfl ⟨_, rfl, hown2, hbel⟩

set_option maxRecDepth 100000 in
theorem ixb_many (va vb : Value) (la lb : List Nat) (w : World) (ha : Rd w va la) (hb : Rd w vb lb) (h1 : 800 < la.length) :
    Calls Try.prog 19 #[va, vb] w fun e w' => e = .returned (.agg #[.int .i64 2, .slice none 0 0]) ∧ Below w.heap.size w w' := by
  obtain ⟨a, capa, rfl, _, _, _⟩ := ha.parts
  obtain ⟨b, capb, rfl, _, _, _⟩ := hb.parts
  have hin : inB (la.length : Int) 0 800 = false := by unfold inB; exact decide_eq_false (by omega)
  clear ha hb
  go_enter Try.func19, Try.ntmps19
  go_wp2_with fail
  refine (within1 _ _ _ _ _ (heap_alloc2_new w _ _)).mono ?_
  rintro e w1 ⟨rfl, hB⟩
  have hv : w1.heap[w.heap.size]? = some (.cells #[.int .i64 0, .slice none 0 0] 33) := by rw [hB.block _ (by simp; omega)]; exact heap_alloc2_old w _ _
  have hb1 : Below w.heap.size w w1 := (below_alloc2 w _ _).trans (hB.mono (by simp; omega))
  obtain ⟨f1, f2, f3, f4⟩ := var2_facts hv
  have hset := var2_set (x' := .int .i64 2) (y' := .slice none 0 0) hv
  have hbel := below_set2 (x := .int .i64 2) (y := .slice none 0 0) hb1 (Nat.le_refl _)
  clear hB hv hb1
  go_wp2
  exact bodyPost_ret (v := .agg #[.int .i64 2, .slice none 0 0]) (results_cell_row rfl _ _ w.heap.size 33 _ _ _ rfl hset Try.underlying33 rfl (by kernel_rfl)) rfl ⟨rfl, hbel⟩

set_option maxRecDepth 100000 in
theorem ixb_form (va vb : Value) (la lb : List Nat) (w : World) (ha : Rd w va la) (hb : Rd w vb lb) (h1 : la.length ≤ 800) (h2 : la.length ≠ lb.length) :
    Calls Try.prog 19 #[va, vb] w fun e w' => e = .returned (.agg #[.int .i64 1, .slice none 0 0]) ∧ Below w.heap.size w w' := by
  obtain ⟨a, capa, rfl, _, _, _⟩ := ha.parts
  obtain ⟨b, capb, rfl, _, _, _⟩ := hb.parts
  have hin : inB (la.length : Int) 0 800 = true := by unfold inB; simp; omega
  have hne : ((lb.length : Int) != (la.length : Int)) = true := by rw [bne_iff_ne]; omega
  clear ha hb
  go_enter Try.func19, Try.ntmps19
  go_wp2_with fail
  refine (within1 _ _ _ _ _ (heap_alloc2_new w _ _)).mono ?_
  rintro e w1 ⟨rfl, hB⟩
  have hv : w1.heap[w.heap.size]? = some (.cells #[.int .i64 0, .slice none 0 0] 33) := by rw [hB.block _ (by simp; omega)]; exact heap_alloc2_old w _ _
  have hb1 : Below w.heap.size w w1 := (below_alloc2 w _ _).trans (hB.mono (by simp; omega))
  obtain ⟨f1, f2, f3, f4⟩ := var2_facts hv
  have hset := var2_set (x' := .int .i64 1) (y' := .slice none 0 0) hv
  have hbel := below_set2 (x := .int .i64 1) (y := .slice none 0 0) hb1 (Nat.le_refl _)
  clear hB hv hb1
  go_wp2
  exact bodyPost_ret (v := .agg #[.int .i64 1, .slice none 0 0]) (results_cell_row rfl _ _ w.heap.size 33 _ _ _ rfl hset Try.underlying33 rfl (by kernel_rfl)) rfl ⟨rfl, hbel⟩
end Go.Proofs.Ythkicdgkhlkndaa.W
