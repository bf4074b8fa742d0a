/-
  What the program's take does.
-/
import Derived.Test.YtmamdbmkjipahalForW
import Derived.Test.YtmamdbmkjipahalTcF
namespace Go.Proofs.Ytmamdbmkjipahal.W
open Go.ChangeShapes Go.WideShapes Go.ChangeAt Go.RowKit Go.Maps
open Go.Proofs.Ytmamdbmkjipahal.M

theorem tkT_of_le {top n : Int} (h : ¬ n > top) : tkT top n = top := by unfold tkT; rw [if_neg (by omega)]
theorem tkT_of_gt {top n : Int} (h : n > top) : tkT top n = n := by unfold tkT; rw [if_pos (by omega)]
theorem cellS0z {w : World} {g : Nat} {x y x' : Value} {T : TypeId} (h : w.heap[g]? = some (.cells #[x, y] T)) : (w.setCell ⟨g, 0, none⟩ x').heap[g]? = some (.cells #[x', y] T) := by
  have h1 := heap_setCell_same w g 0 _ T x' h
  simpa using h1
theorem TSet.setCell {w : World} {b n : Nat} {zs : List Int} (h : TSet w b n zs) {a : Addr} (ha : b ≠ a.block) (u : Value) : TSet (w.setCell a u) b n zs := by
  obtain ⟨D, hO, hm⟩ := h
  exact ⟨D, hO.setCell ha u, hm⟩
theorem ret_i {a b : Int} (h : a = b) : Ending.returned (.int .i64 a) = .returned (.int .i64 b) := by rw [h]
set_option maxHeartbeats 2000000 in
set_option maxRecDepth 100000 in
theorem itk_no (g b nn : Nat) (top n : Int) (l : List Int) (w : World) (hW : Win1 w g b nn top l) (hk : WOk top l) (hc : ¬ tkC top l n = 0) :
    Calls Try.prog 48 #[.pointer (some ⟨g, 0, none⟩), .int .i64 n] w fun e w' => e = .returned (.int .i64 (tkC top l n)) ∧ Below w.heap.size w w' := by
  have HW := hid hW
  have HC := hid hc
  clear hW hc
  go_enter Try.func48, Try.ntmps48
  go_wp2_with fail
  have V2 := heap_alloc_new w (.cells #[.int .i64 n, .int .i64 0, .int .i64 1000000000] 76)
  have BB := hid (below_alloc1 w (.cells #[.int .i64 n, .int .i64 0, .int .i64 1000000000] 76))
  generalize w.alloc (.cells #[.int .i64 n, .int .i64 0, .int .i64 1000000000] 76) = w0 at *
  refine (within1 _ _ _ _ _ V2).mono ?_
  rintro e w1 ⟨rfl, hB⟩
  replace BB := hid (BB.out.trans (hB.mono BB.out.size))
  replace HW := hid (HW.out.below BB.out)
  clear hB V2
  by_cases hn : 0 ≤ n ∧ n ≤ 1000000000
  case neg =>
    have E := hid (tkC_range (top := top) (l := l) hn)
    rw [show inB n 0 1000000000 = false from decide_eq_false hn]
    clear hn
    go_wp2
    go_ret
    exact ⟨ret_i E.out.symm, BB.out⟩
  rw [show inB n 0 1000000000 = true from decide_eq_true hn]
  have HN := hid hn
  have WN := hid (show (Lit.int .i64 n).wf = true from WalkArith.wf_i64 (by omega))
  clear hn
  go_wp2_with fail
  refine (ihasT g b nn top n l _ HW.out.var HW.out.set WN.out).mono ?_
  rintro e w2 ⟨rfl, hB⟩
  replace BB := hid (BB.out.trans (hB.mono BB.out.size))
  replace HW := hid (HW.out.below hB)
  clear hB
  cases hi : l.contains n with
  | true =>
    have E := hid (tkC_there (top := top) HN.out (show n ∈ l by simpa using hi))
    clear hi
    go_wp2
    go_ret
    exact ⟨ret_i E.out.symm, BB.out⟩
  | false =>
    have HI := hid (show n ∉ l by simpa using hi)
    clear hi
    obtain ⟨f0, f1, -, -⟩ := var2_facts HW.out.var
    go_wp2_with fail
    refine (iold _ _ _ hk.rng).mono ?_
    rintro e w3 ⟨rfl, hw3⟩
    rw [hw3]
    clear hw3 w3
    by_cases ho : n ≤ top - 16
    · have E := hid (tkC_old HN.out HI.out ho)
      rw [decide_eq_true ho]
      clear ho
      go_wp2
      go_ret
      exact ⟨ret_i E.out.symm, BB.out⟩
    · exact absurd (tkC_ok HN.out HI.out ho) HC.out
set_option maxHeartbeats 2000000 in
set_option maxRecDepth 100000 in
theorem itk_ok (g b nn : Nat) (top n : Int) (l : List Int) (w : World) (hW : Win1 w g b nn top l) (hk : WOk top l) (hc : tkC top l n = 0) (hnn : nn < 4194304) :
    Calls Try.prog 48 #[.pointer (some ⟨g, 0, none⟩), .int .i64 n] w fun e w' => e = .returned (.int .i64 0) ∧ Win1 w' g b (nn + 1) (tkT top n) (insZ (tkT top n - 16) n l) ∧ ∀ B, B ≤ g → B ≤ b → B ≤ w.heap.size → Below B w w' := by
  have HW := hid hW
  obtain ⟨hn, hi, ho⟩ := tkC_zero hc
  have HI := hid hi
  have HN := hid hn
  have WN := hid (show (Lit.int .i64 n).wf = true from WalkArith.wf_i64 (by omega))
  have ho2 := hid (show ¬ n ≤ top - 16 by omega)
  clear hW hc hi ho
  go_enter Try.func48, Try.ntmps48
  go_wp2_with fail
  have V2 := heap_alloc_new w (.cells #[.int .i64 n, .int .i64 0, .int .i64 1000000000] 76)
  have BB := hid (below_alloc1 w (.cells #[.int .i64 n, .int .i64 0, .int .i64 1000000000] 76))
  generalize w.alloc (.cells #[.int .i64 n, .int .i64 0, .int .i64 1000000000] 76) = w0 at *
  refine (within1 _ _ _ _ _ V2).mono ?_
  rintro e w1 ⟨rfl, hB⟩
  replace BB := hid (BB.out.trans (hB.mono BB.out.size))
  replace HW := hid (HW.out.below BB.out)
  clear hB V2
  rw [show inB n 0 1000000000 = true from decide_eq_true hn]
  clear hn
  go_wp2_with fail
  refine (ihasT g b nn top n l _ HW.out.var HW.out.set WN.out).mono ?_
  rintro e w2 ⟨rfl, hB⟩
  replace BB := hid (BB.out.trans (hB.mono BB.out.size))
  replace HW := hid (HW.out.below hB)
  clear hB
  rw [show l.contains n = false by simpa using HI.out]
  obtain ⟨f0, f1, -, -⟩ := var2_facts HW.out.var
  go_wp2_with fail
  clear f0 f1
  refine (iold _ _ _ hk.rng).mono ?_
  rintro e w3 ⟨rfl, hw3⟩
  rw [hw3]
  clear hw3 w3
  rw [show decide (n ≤ top - 16) = false from decide_eq_false (by have := ho2.out; omega)]
  clear ho2
  go_wp2_with fail
  refine (iputT g b nn top n l _ HW.out.var HW.out.set hnn WN.out).mono ?_
  rintro e w3 ⟨⟨u, rfl⟩, hS, hG⟩
  have V3 := hid (var_grownT HW.out.var HW.out.set hG)
  have S3 := hid hS
  have B3 := hid (show ∀ B, B ≤ b → B ≤ w.heap.size → Below B w w3 from fun B h1 h2 => (BB.out.mono h2).trans (below_of_grown hG (Nat.le_trans h2 BB.out.size) (fun k e => by cases e; exact h1)))
  clear hS hG HW
  obtain ⟨f0, f1, f2, f3⟩ := var2_facts V3.out
  by_cases hgt : n > top
  · have ET := hid (tkT_of_gt hgt)
    have V4 := hid (cellS0z (x' := .int .i64 n) V3.out)
    have S4 := hid (S3.out.setCell (a := ⟨g, 0, none⟩) (fun e => S3.out.apart V3.out (by rw [e])) (.int .i64 n))
    have B4 := hid (show ∀ B, B ≤ g → B ≤ b → B ≤ w.heap.size → Below B w _ from fun B h0 h1 h2 => (B3.out B h1 h2).setCell (p := ⟨g, 0, none⟩) h0 (.int .i64 n))
    go_wp2_with fail
    clear f0 f1 f2 f3
    have RN := hid (show -1 ≤ n ∧ n ≤ 1000000000 by have := HN.out; omega)
    refine (ifor g b (nn + 1) n (n :: l) _ ⟨V4.out, S4.out⟩ RN.out).mono ?_
    rintro e w5 ⟨⟨u5, rfl⟩, hW5, hG5⟩
    have W5 := hid hW5
    have B5 := hid (show ∀ B, B ≤ g → B ≤ b → B ≤ w.heap.size → Below B w w5 from fun B h0 h1 h2 => (B4.out B h0 h1 h2).trans (below_of_grown hG5 (Nat.le_trans h2 (B4.out B h0 h1 h2).size) (fun k e => by cases e; exact h1)))
    clear hW5 hG5
    go_wp2
    go_ret
    exact ⟨rfl, by rw [ET.out]; exact ⟨W5.out.var, W5.out.set.same fun y => by
      rw [mem_insZ, List.mem_filter, List.mem_cons]
      constructor
      · rintro ⟨q | q, q2⟩
        · exact .inl q
        · exact .inr ⟨q, by simpa using q2⟩
      · rintro (q | q)
        · exact ⟨.inl q, by simp; omega⟩
        · exact ⟨.inr q.1, by simpa using q.2⟩⟩, B5.out⟩
  · have ET := hid (tkT_of_le hgt)
    go_wp2
    go_ret
    exact ⟨rfl, by rw [ET.out]; exact ⟨V3.out, S3.out.same fun y => by
      rw [mem_insZ, List.mem_cons]
      constructor
      · rintro (q | q)
        · exact .inl q
        · exact .inr ⟨q, (hk.mem y q).2.2⟩
      · rintro (q | q)
        · exact .inl q
        · exact .inr q.1⟩, fun B _ h1 h2 => B3.out B h1 h2⟩
end Go.Proofs.Ytmamdbmkjipahal.W
