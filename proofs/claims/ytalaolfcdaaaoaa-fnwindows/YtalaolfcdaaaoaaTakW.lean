/-
  What the program's take does.
-/
import Derived.Test.YtalaolfcdaaaoaaForW
import Derived.Test.YtalaolfcdaaaoaaTcF
namespace Go.Proofs.Ytalaolfcdaaaoaa.W
open Go.ChangeShapes Go.WideShapes Go.ChangeAt Go.RowKit Go.Maps
open Go.Proofs.Ytalaolfcdaaaoaa.M

theorem tkT_of_le {top n : Int} (h : ¬ n > top) : tkT top n = top := by unfold tkT; rw [if_neg (by omega)]
theorem tkT_of_gt {top n : Int} (h : n > top) : tkT top n = n := by unfold tkT; rw [if_pos (by omega)]
theorem cellS0z {w : World} {g : Nat} {x y x' : Value} {T : TypeId} (h : w.heap[g]? = some (.cells #[x, y] T)) : (w.setCell ⟨g, 0, none⟩ x').heap[g]? = some (.cells #[x', y] T) := by
  have h1 := heap_setCell_same w g 0 _ T x' h
  simpa using h1
theorem TSet.setCell {w : World} {b n : Nat} {zs : List Int} (h : TSet w b n zs) {a : Addr} (ha : b ≠ a.block) (u : Value) : TSet (w.setCell a u) b n zs := by
  obtain ⟨D, hO, hm⟩ := h
  exact ⟨D, hO.setCell ha u, hm⟩
theorem ret_i {a b : Int} (h : a = b) : Ending.returned (.int .i64 a) = .returned (.int .i64 b) := by rw [h]
set_option maxHeartbeats 2000000 in
set_option maxRecDepth 100000 in
theorem itk_no (g b nn : Nat) (top n : Int) (l : List Int) (w : World) (hW : Win1 w g b nn top l) (hk : WOk top l) (hc : ¬ tkC top l n = 0) :
    Calls Try.prog 101 #[.pointer (some ⟨g, 0, none⟩), .int .i64 n] w fun e w' => e = .returned (.int .i64 (tkC top l n)) ∧ Below w.heap.size w w' := by
  have HW := hid hW
  have HC := hid hc
  clear hW hc
  go_enter Try.func101, Try.ntmps101
  go_wp2_with fail
  have V2 := heap_alloc_new w (.cells #[.int .i64 n, .int .i64 0, .int .i64 1000000000] 100)
  have BB := hid (below_alloc1 w (.cells #[.int .i64 n, .int .i64 0, .int .i64 1000000000] 100))
  generalize w.alloc (.cells #[.int .i64 n, .int .i64 0, .int .i64 1000000000] 100) = w0 at *
  refine (within1 _ _ _ _ _ V2).mono ?_
  rintro e w1 ⟨rfl, hB⟩
  replace BB := hid (BB.out.trans (hB.mono BB.out.size))
  replace HW := hid (HW.out.below BB.out)
  clear hB V2
  by_cases hn : 0 ≤ n ∧ n ≤ 1000000000
  case neg =>
    have E := hid (tkC_range (top := top) (l := l) hn)
    rw [show inB n 0 1000000000 = false from decide_eq_false hn]
    clear hn
    go_wp2
    go_ret
    exact ⟨ret_i E.out.symm, BB.out⟩
  rw [show inB n 0 1000000000 = true from decide_eq_true hn]
  have HN := hid hn
  have WN := hid (show (Lit.int .i64 n).wf = true from WalkArith.wf_i64 (by omega))
  clear hn
  go_wp2_with fail
  refine (ihasT g b nn top n l _ HW.out.var HW.out.set WN.out).mono ?_
  rintro e w2 ⟨rfl, hB⟩
  replace BB := hid (BB.out.trans (hB.mono BB.out.size))
  replace HW := hid (HW.out.below hB)
  clear hB
  cases hi : l.contains n with
  | true =>
    have E := hid (tkC_there (top := top) HN.out (show n ∈ l by simpa using hi))
    clear hi
    go_wp2
    go_ret
    exact ⟨ret_i E.out.symm, BB.out⟩
  | false =>
    have HI := hid (show n ∉ l by simpa using hi)
    clear hi
    obtain ⟨f0, f1, -, -⟩ := var2_facts HW.out.var
    go_wp2_with fail
    refine (iold _ _ _ hk.rng).mono ?_
    rintro e w3 ⟨rfl, hw3⟩
    rw [hw3]
    clear hw3 w3
    by_cases ho : n ≤ top - 16
    · have E := hid (tkC_old HN.out HI.out ho)
      rw [decide_eq_true ho]
      clear ho
      go_wp2
      go_ret
      exact ⟨ret_i E.out.symm, BB.out⟩
    · exact absurd (tkC_ok HN.out HI.out ho) HC.out
/-- Only blocks g and b may be other than they were. -/
structure Two (g b : Nat) (w w' : World) : Prop where
  os : w'.os = w.os
  tape : w'.tape = w.tape
  output : w'.output = w.output
  size : w.heap.size ≤ w'.heap.size
  block : ∀ k, k < w.heap.size → k ≠ g → k ≠ b → w'.heap[k]? = w.heap[k]?
theorem Two.trans {g b : Nat} {x y z : World} (h : Two g b x y) (k : Two g b y z) : Two g b x z :=
  ⟨k.os.trans h.os, k.tape.trans h.tape, k.output.trans h.output, Nat.le_trans h.size k.size, fun i hi h1 h2 => (k.block i (Nat.lt_of_lt_of_le hi h.size) h1 h2).trans (h.block i hi h1 h2)⟩
theorem Two.of_below {g b : Nat} {w w' : World} (h : Below w.heap.size w w') : Two g b w w' := ⟨h.os, h.tape, h.output, h.size, fun k hk _ _ => h.block k hk⟩
theorem Two.of_grown {g b : Nat} {w w' : World} (h : w.grownBy w' (some b)) : Two g b w w' := ⟨h.os, h.tape, h.output, h.size, fun k hk _ h2 => h.block k hk (fun e => h2 (Option.some.inj e))⟩
theorem Two.of_set (w : World) (g b i : Nat) (v : Value) : Two g b w (w.setCell ⟨g, i, none⟩ v) := ⟨rfl, rfl, rfl, by simp, fun k _ h1 _ => Below.heap_setCell _ _ _ _ (show k ≠ g from h1)⟩
theorem Two.below {g b B : Nat} {w w' : World} (h : Two g b w w') (h1 : B ≤ g) (h2 : B ≤ b) (h3 : B ≤ w.heap.size) : Below B w w' :=
  ⟨h.os, h.tape, h.output, h.size, fun k hk => h.block k (by omega) (by omega) (by omega)⟩
theorem Two.own {g b base : Nat} {w w' : World} (h : Two g b w w') (h1 : g < base) (h2 : b < base) {v : Value} {l : List Int} (hO : OwZ w base v l) : OwZ w' base v l := by
  refine ⟨hO.1, ?_⟩
  rcases hO.2 with hn | ⟨g', cap, cur, rfl, hbb, hgg, rest⟩
  · exact .inl hn
  · exact .inr ⟨g', cap, cur, rfl, hbb, by rw [h.block g' (Array.getElem?_eq_some_iff.1 hgg).1 (by omega) (by omega)]; exact hgg, rest⟩
set_option maxHeartbeats 2000000 in
set_option maxRecDepth 100000 in
theorem itk_ok2 (g b nn : Nat) (top n : Int) (l : List Int) (w : World) (hW : Win1 w g b nn top l) (hk : WOk top l) (hc : tkC top l n = 0) (hnn : nn < 4194304) :
    Calls Try.prog 101 #[.pointer (some ⟨g, 0, none⟩), .int .i64 n] w fun e w' => e = .returned (.int .i64 0) ∧ Win1 w' g b (nn + 1) (tkT top n) (insZ (tkT top n - 16) n l) ∧ Two g b w w' := by
  have HW := hid hW
  obtain ⟨hn, hi, ho⟩ := tkC_zero hc
  have HI := hid hi
  have HN := hid hn
  have WN := hid (show (Lit.int .i64 n).wf = true from WalkArith.wf_i64 (by omega))
  have ho2 := hid (show ¬ n ≤ top - 16 by omega)
  clear hW hc hi ho
  go_enter Try.func101, Try.ntmps101
  go_wp2_with fail
  have V2 := heap_alloc_new w (.cells #[.int .i64 n, .int .i64 0, .int .i64 1000000000] 100)
  have BB := hid (below_alloc1 w (.cells #[.int .i64 n, .int .i64 0, .int .i64 1000000000] 100))
  generalize w.alloc (.cells #[.int .i64 n, .int .i64 0, .int .i64 1000000000] 100) = w0 at *
  refine (within1 _ _ _ _ _ V2).mono ?_
  rintro e w1 ⟨rfl, hB⟩
  replace BB := hid (BB.out.trans (hB.mono BB.out.size))
  replace HW := hid (HW.out.below BB.out)
  clear hB V2
  rw [show inB n 0 1000000000 = true from decide_eq_true hn]
  clear hn
  go_wp2_with fail
  refine (ihasT g b nn top n l _ HW.out.var HW.out.set WN.out).mono ?_
  rintro e w2 ⟨rfl, hB⟩
  replace BB := hid (BB.out.trans (hB.mono BB.out.size))
  replace HW := hid (HW.out.below hB)
  clear hB
  rw [show l.contains n = false by simpa using HI.out]
  obtain ⟨f0, f1, -, -⟩ := var2_facts HW.out.var
  go_wp2_with fail
  clear f0 f1
  refine (iold _ _ _ hk.rng).mono ?_
  rintro e w3 ⟨rfl, hw3⟩
  rw [hw3]
  clear hw3 w3
  rw [show decide (n ≤ top - 16) = false from decide_eq_false (by have := ho2.out; omega)]
  clear ho2
  go_wp2_with fail
  refine (iputT g b nn top n l _ HW.out.var HW.out.set hnn WN.out).mono ?_
  rintro e w3 ⟨⟨u, rfl⟩, hS, hG⟩
  have V3 := hid (var_grownT HW.out.var HW.out.set hG)
  have S3 := hid hS
  have B3 := hid (show Two g b w w3 from (Two.of_below BB.out).trans (Two.of_grown hG))
  clear hS hG HW
  obtain ⟨f0, f1, f2, f3⟩ := var2_facts V3.out
  by_cases hgt : n > top
  · have ET := hid (tkT_of_gt hgt)
    have V4 := hid (cellS0z (x' := .int .i64 n) V3.out)
    have S4 := hid (S3.out.setCell (a := ⟨g, 0, none⟩) (fun e => S3.out.apart V3.out (by rw [e])) (.int .i64 n))
    have B4 := hid (B3.out.trans (Two.of_set w3 g b 0 (.int .i64 n)))
    go_wp2_with fail
    clear f0 f1 f2 f3
    have RN := hid (show -1 ≤ n ∧ n ≤ 1000000000 by have := HN.out; omega)
    refine (ifor g b (nn + 1) n (n :: l) _ ⟨V4.out, S4.out⟩ RN.out).mono ?_
    rintro e w5 ⟨⟨u5, rfl⟩, hW5, hG5⟩
    have W5 := hid hW5
    have B5 := hid (B4.out.trans (Two.of_grown hG5))
    clear hW5 hG5
    go_wp2
    go_ret
    exact ⟨rfl, by rw [ET.out]; exact ⟨W5.out.var, W5.out.set.same fun y => by
      rw [mem_insZ, List.mem_filter, List.mem_cons]
      constructor
      · rintro ⟨q | q, q2⟩
        · exact .inl q
        · exact .inr ⟨q, by simpa using q2⟩
      · rintro (q | q)
        · exact ⟨.inl q, by simp; omega⟩
        · exact ⟨.inr q.1, by simpa using q.2⟩⟩, B5.out⟩
  · have ET := hid (tkT_of_le hgt)
    go_wp2
    go_ret
    exact ⟨rfl, by rw [ET.out]; exact ⟨V3.out, S3.out.same fun y => by
      rw [mem_insZ, List.mem_cons]
      constructor
      · rintro (q | q)
        · exact .inl q
        · exact .inr ⟨q, (hk.mem y q).2.2⟩
      · rintro (q | q)
        · exact .inl q
        · exact .inr q.1⟩, B3.out⟩
theorem itk_ok (g b nn : Nat) (top n : Int) (l : List Int) (w : World) (hW : Win1 w g b nn top l) (hk : WOk top l) (hc : tkC top l n = 0) (hnn : nn < 4194304) :
    Calls Try.prog 101 #[.pointer (some ⟨g, 0, none⟩), .int .i64 n] w fun e w' => e = .returned (.int .i64 0) ∧ Win1 w' g b (nn + 1) (tkT top n) (insZ (tkT top n - 16) n l) ∧ ∀ B, B ≤ g → B ≤ b → B ≤ w.heap.size → Below B w w' :=
  (itk_ok2 g b nn top n l w hW hk hc hnn).mono fun _ _ ⟨he, hw, ht⟩ => ⟨he, hw, fun _ h1 h2 h3 => ht.below h1 h2 h3⟩
end Go.Proofs.Ytalaolfcdaaaoaa.W
