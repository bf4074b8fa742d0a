/-
  Marks and heads: what the program's isMarked and isRight answer.
-/
import Derived.Test.YtmamdbmkjipahabWithin
import Derived.Test.YtmamdbmkjipahabEnvF
namespace Go.Proofs.Ytmamdbmkjipahab.W
open Go.ChangeShapes Go.WideShapes Go.ChangeAt Go.RowKit
open Go.Proofs.Ytmamdbmkjipahab.M

theorem mark_yes {s c : Int} (h : mOk s c) : (inB s 0 15 && inB c 0 1000000000) = true := by unfold mOk at h; unfold inB; simp; omega
theorem mark_no {s c : Int} (h : ¬ mOk s c) : (inB s 0 15 && inB c 0 1000000000) = false := by
  unfold mOk at h
  unfold inB
  by_cases h1 : 0 ≤ s ∧ s ≤ 15
  · rw [decide_eq_false (fun q : 0 ≤ c ∧ c ≤ 1000000000 => h ⟨h1, q⟩), Bool.and_false]
  · rw [decide_eq_false h1, Bool.false_and]

set_option maxRecDepth 100000 in
theorem imark (s c : Int) (w : World) :
    Calls Try.prog 102 #[.agg #[.int .i64 s, .int .i64 c]] w fun e w' => e = .returned (.bool (inB s 0 15 && inB c 0 1000000000)) ∧ Below w.heap.size w w' := by
  go_enter Try.func102, Try.ntmps102
  go_wp2_with fail
  refine (within2 _ _ _ _ _ _ _ _ (heap_alloc2_new w _ _)).mono ?_
  rintro e w1 ⟨rfl, hB⟩
  have hb1 := hid (show Below w.heap.size w w1 from (below_alloc2 w _ _).trans (hB.mono (by simp; omega)))
  clear hB
  obtain ⟨t, ht⟩ : ∃ t, t = (inB s 0 15 && inB c 0 1000000000) := ⟨_, rfl⟩
  rw [← ht]
  replace ht := hid ht
  go_wp2
  go_ret
  exact ⟨ret_b ht.out, hb1.out⟩

set_option maxRecDepth 100000 in
theorem iright (k s c : Int) (w : World) :
    Calls Try.prog 104 #[.agg #[.int .i64 s, .int .i64 c, .int .i64 k]] w fun e w' => ∃ t, e = .returned (.bool t) ∧ (hOk k s c → t = true) ∧ (¬ hOk k s c → t = false) ∧ Below w.heap.size w w' := by
  go_enter Try.func104, Try.ntmps104
  go_wp2_with fail
  refine (within1 _ _ _ _ _ (heap_alloc2_new w _ _)).mono ?_
  rintro e w1 ⟨rfl, hB⟩
  have V : w1.heap[w.heap.size]? = some (.cells #[.int .i64 s, .int .i64 c, .int .i64 k] 137) := by rw [hB.block _ (by simp; omega)]; exact heap_alloc2_old w _ _
  have c0 : w1.cell? ⟨w.heap.size, 0, none⟩ = some (.int .i64 s) := by rw [cell_of_row w1 w.heap.size 0 _ _ _ V]; rfl
  have c1 : w1.cell? ⟨w.heap.size, 1, none⟩ = some (.int .i64 c) := by rw [cell_of_row w1 w.heap.size 1 _ _ _ V]; rfl
  have c2 : w1.cell? ⟨w.heap.size, 2, none⟩ = some (.int .i64 k) := by rw [cell_of_row w1 w.heap.size 2 _ _ _ V]; rfl
  have hb1 := hid (show Below w.heap.size w w1 from (below_alloc2 w _ _).trans (hB.mono (by simp; omega)))
  clear hB V
  by_cases hk : 1 ≤ k ∧ k ≤ 255
  · rw [show inB k 1 255 = true by unfold inB; exact decide_eq_true hk]
    have HK := hid hk
    clear hk
    go_wp2_with fail
    refine (imark s c _).mono ?_
    rintro e w2 ⟨rfl, hB⟩
    have hb2 := hid (hb1.out.trans (hB.mono hb1.out.size))
    clear hB
    obtain ⟨t, ht⟩ : ∃ t, t = (inB s 0 15 && inB c 0 1000000000) := ⟨_, rfl⟩
    rw [← ht]
    replace ht := hid ht
    go_wp2
    go_ret
    exact ⟨t, rfl, fun h => ht.out.trans (mark_yes h.2), fun h => ht.out.trans (mark_no fun q => h ⟨HK.out, q⟩), hb2.out⟩
  · rw [show inB k 1 255 = false by unfold inB; exact decide_eq_false hk]
    have HK := hid hk
    clear hk
    go_wp2
    go_ret
    exact ⟨false, rfl, fun h => absurd h.1 HK.out, fun _ => rfl, hb1.out⟩
end Go.Proofs.Ytmamdbmkjipahab.W
