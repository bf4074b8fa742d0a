/-
  Numbers out of bytes: what ReadWord of the program answers.
-/
import Derived.Test.YtmamdbmkjipahabWithin
import Derived.Test.YtmamdbmkjipahabRead
namespace Go.Proofs.Ytmamdbmkjipahab.W
open Go.ChangeShapes Go.WideShapes Go.ChangeAt Go.RowKit
open Go.Proofs.Ytmamdbmkjipahab.M

set_option maxRecDepth 100000 in
theorem irw_ok (v : Value) (l : List Nat) (a s : Nat) (w : World) (h : Rd w v l) (y : Byt l) (hs1 : 1 ≤ s) (hs : s ≤ 8) (ha : a + s ≤ l.length) (hf : ¬ (s = 8 ∧ 127 < l.getD a 0)) (hm : l.length ≤ 1048576) :
    Calls Try.prog 137 #[v, .int .i64 (a : Int), .int .i64 (s : Int)] w fun e w' => e = .returned (.agg #[.int .i64 0, .int .i64 (vt l a s : Nat)]) ∧ Below w.heap.size w w' := by
  obtain ⟨p, cap, rfl, hcap, _, hcs⟩ := h.parts
  obtain ⟨b, o, rfl, hc0⟩ := hcs a (by omega)
  have hin : (inB (s : Int) 1 8 && inB (a : Int) 0 (l.length : Int)) = true := by
    unfold inB; rw [decide_eq_true (show 1 ≤ (s : Int) ∧ (s : Int) ≤ 8 by omega), decide_eq_true (show 0 ≤ (a : Int) ∧ (a : Int) ≤ l.length by omega)]; rfl
  have hc1 : ¬ ((l.length : Int) - (a : Int) < (s : Int)) := by omega
  have HC := hid (fun i (hi : i < l.length) => show w.cell? ⟨b, o + i, none⟩ = some (bv l[i]) by
    obtain ⟨b', o', e, hc⟩ := hcs i hi
    cases e
    exact hc)
  have HF := hid hf
  clear h hcs hf hc0
  go_enter Try.func137, Try.ntmps137
  go_wp2_with fail
  refine (within2 _ _ _ _ _ _ _ _ (heap_alloc2_new w _ _)).mono ?_
  rintro e w1 ⟨rfl, hB⟩
  have hv : w1.heap[w.heap.size]? = some (.cells #[.int .i64 0, .int .i64 0] 176) := by rw [hB.block _ (by simp; omega)]; exact heap_alloc2_old w _ _
  have hb1 : Below w.heap.size w w1 := (below_alloc2 w _ _).trans (hB.mono (by simp; omega))
  clear hB
  go_wp2
  clear hin
  go_loop [8, 10, 36] (fun n b' i => ∃ k : Nat, ∃ u : Value, k ≤ s ∧ i = .int .i64 k ∧ n = .int .i64 (vt l a k : Nat) ∧ b' = u) (fun _ _ i => s - (intOf i).toNat)
  case atStart => exact ⟨0, _, by omega, rfl, rfl, rfl⟩
  case round =>
    obtain ⟨k, u, hk, rfl, rfl, rfl⟩ := hrel
    by_cases hlt : k < s
    · have hc := cell_kept hb1 (HC.out (a + k) (by omega))
      have E1 := hid (show vt l a (k + 1) = vt l a k * 256 + l[a + k]'(by omega) by rw [vt, getD_at])
      have b1 : vt l a k < 36028797018963968 := by
        by_cases e7 : k ≤ 6
        · exact vt_small l y a k e7
        · have e7 : k = 7 := by omega
          subst e7
          have := (vt_seven l y a).1
          rcases Nat.lt_or_ge (vt l a 7) 36028797018963968 with q | q
          · exact q
          · exact absurd ⟨by omega, this q⟩ HF.out
      have b2 := y.at (a + k) (by omega)
      unfold bv at hc
      rw [show o + (a + k) = o + a + k by omega] at hc
      generalize l[a + k] = x at *
      generalize vt l a k = n at *
      have hi0 : (k : Int) < (a : Int) + (s : Int) - (a : Int) := by omega
      clear HC hv hb1
      go_wp2
      exact ⟨⟨k + 1, _, by omega, by go_num, by rw [E1.out]; go_num, rfl⟩, by simp [intOf]; omega⟩
    · have hk8 : k = s := by omega
      subst hk8
      obtain ⟨f1, f2, f3, f4⟩ := var2_facts hv
      have hset := var2_set (x' := .int .i64 0) (y' := .int .i64 (vt l a k : Nat)) hv
      have hbel := below_set2 (x := .int .i64 0) (y := .int .i64 (vt l a k : Nat)) hb1 (Nat.le_refl _)
      clear hv hb1 HC
      go_wp2
      exact bodyPost_ret (v := .agg #[.int .i64 0, .int .i64 (vt l a k : Nat)]) (results_cell_row rfl _ _ w.heap.size 176 _ _ _ rfl hset Try.underlying176 rfl (by kernel_rfl)) rfl ⟨rfl, hbel⟩

set_option maxRecDepth 100000 in
theorem irw_form (v : Value) (l : List Nat) (a : Nat) (w : World) (h : Rd w v l) (y : Byt l) (ha : a + 8 ≤ l.length) (hf : 127 < l.getD a 0) (hm : l.length ≤ 1048576) :
    Calls Try.prog 137 #[v, .int .i64 (a : Int), .int .i64 8] w fun e w' => e = .returned (.agg #[.int .i64 1, .int .i64 0]) ∧ Below w.heap.size w w' := by
  obtain ⟨p, cap, rfl, hcap, _, hcs⟩ := h.parts
  obtain ⟨b, o, rfl, hc0⟩ := hcs a (by omega)
  have hin : (inB 8 1 8 && inB (a : Int) 0 (l.length : Int)) = true := by
    unfold inB; rw [decide_eq_true (show 1 ≤ (8 : Int) ∧ (8 : Int) ≤ 8 by omega), decide_eq_true (show 0 ≤ (a : Int) ∧ (a : Int) ≤ l.length by omega)]; rfl
  have hc1 : ¬ ((l.length : Int) - (a : Int) < 8) := by omega
  have HC := hid (fun i (hi : i < l.length) => show w.cell? ⟨b, o + i, none⟩ = some (bv l[i]) by
    obtain ⟨b', o', e, hc⟩ := hcs i hi
    cases e
    exact hc)
  have HF := hid hf
  clear h hcs hf hc0
  go_enter Try.func137, Try.ntmps137
  go_wp2_with fail
  refine (within2 _ _ _ _ _ _ _ _ (heap_alloc2_new w _ _)).mono ?_
  rintro e w1 ⟨rfl, hB⟩
  have hv : w1.heap[w.heap.size]? = some (.cells #[.int .i64 0, .int .i64 0] 176) := by rw [hB.block _ (by simp; omega)]; exact heap_alloc2_old w _ _
  have hb1 : Below w.heap.size w w1 := (below_alloc2 w _ _).trans (hB.mono (by simp; omega))
  clear hB
  go_wp2
  clear hin
  go_loop [8, 10, 36] (fun n b' i => ∃ k : Nat, ∃ u : Value, k ≤ 7 ∧ i = .int .i64 k ∧ n = .int .i64 (vt l a k : Nat) ∧ b' = u) (fun _ _ i => 8 - (intOf i).toNat)
  case atStart => exact ⟨0, _, by omega, rfl, rfl, rfl⟩
  case round =>
    obtain ⟨k, u, hk, rfl, rfl, rfl⟩ := hrel
    by_cases hlt : k < 7
    · have hc := cell_kept hb1 (HC.out (a + k) (by omega))
      have E1 := hid (show vt l a (k + 1) = vt l a k * 256 + l[a + k]'(by omega) by rw [vt, getD_at])
      have b1 : vt l a k < 36028797018963968 := by
        by_cases e7 : k ≤ 6
        · exact vt_small l y a k e7
        · omega

      have b2 := y.at (a + k) (by omega)
      unfold bv at hc
      rw [show o + (a + k) = o + a + k by omega] at hc
      generalize l[a + k] = x at *
      generalize vt l a k = n at *
      have hi0 : (k : Int) < (a : Int) + 8 - (a : Int) := by omega
      clear HC hv hb1
      go_wp2
      exact ⟨⟨k + 1, _, by omega, by go_num, by rw [E1.out]; go_num, rfl⟩, by simp [intOf]; omega⟩
    · have hk8 : k = 7 := by omega
      subst hk8
      have hc := cell_kept hb1 (HC.out (a + 7) (by omega))
      unfold bv at hc
      rw [show o + (a + 7) = o + a + 7 by omega] at hc
      have b1 := (vt_seven l y a).2 HF.out
      have hx := y.at (a + 7) (by omega)
      generalize l[a + 7] = x at *
      have hb7 : vt l a 7 < 9223372036854775808 := vt_fits l y a 7 (by omega) (fun q => by omega)
      generalize vt l a 7 = n at *
      obtain ⟨f1, f2, f3, f4⟩ := var2_facts hv
      have hset := var2_set (x' := .int .i64 1) (y' := .int .i64 0) hv
      have hbel := below_set2 (x := .int .i64 1) (y := .int .i64 0) hb1 (Nat.le_refl _)
      clear hv hb1 HC
      go_wp2
      exact bodyPost_ret (v := .agg #[.int .i64 1, .int .i64 0]) (results_cell_row rfl _ _ w.heap.size 176 _ _ _ rfl hset Try.underlying176 rfl (by kernel_rfl)) rfl ⟨rfl, hbel⟩

set_option maxRecDepth 100000 in
theorem irw_bad (v : Value) (l : List Nat) (a s : Int) (w : World) (h : Rd w v l) (hr : rdOk l a s = false) (hm : l.length ≤ 1048576) :
    Calls Try.prog 137 #[v, .int .i64 a, .int .i64 s] w fun e w' => e = .returned (.agg #[.int .i64 3, .int .i64 0]) ∧ Below w.heap.size w w' := by
  obtain ⟨p, cap, rfl, _, _, _⟩ := h.parts
  simp only [rdOk, decide_eq_false_iff_not] at hr
  by_cases c1 : (1 ≤ s ∧ s ≤ 8) ∧ 0 ≤ a ∧ a ≤ (l.length : Int)
  · have hin : (inB s 1 8 && inB a 0 (l.length : Int)) = true := by unfold inB; rw [decide_eq_true c1.1, decide_eq_true c1.2]; rfl
    have c2 : (l.length : Int) - a < s := by omega
    have c3 := c1.2.1
    have c4 := c1.2.2
    clear hr h c1
    go_enter Try.func137, Try.ntmps137
    go_wp2_with fail
    refine (within2 _ _ _ _ _ _ _ _ (heap_alloc2_new w _ _)).mono ?_
    rintro e w1 ⟨rfl, hB⟩
    have hv : w1.heap[w.heap.size]? = some (.cells #[.int .i64 0, .int .i64 0] 176) := by rw [hB.block _ (by simp; omega)]; exact heap_alloc2_old w _ _
    have hb1 : Below w.heap.size w w1 := (below_alloc2 w _ _).trans (hB.mono (by simp; omega))
    obtain ⟨f1, f2, f3, f4⟩ := var2_facts hv
    have hset := var2_set (x' := .int .i64 3) (y' := .int .i64 0) hv
    have hbel := below_set2 (x := .int .i64 3) (y := .int .i64 0) hb1 (Nat.le_refl _)
    clear hB hv hb1
    go_wp2
    exact bodyPost_ret (v := .agg #[.int .i64 3, .int .i64 0]) (results_cell_row rfl _ _ w.heap.size 176 _ _ _ rfl hset Try.underlying176 rfl (by kernel_rfl)) rfl ⟨rfl, hbel⟩
  · have hin : (inB s 1 8 && inB a 0 (l.length : Int)) = false := by
      unfold inB
      by_cases h1 : 1 ≤ s ∧ s ≤ 8
      · rw [decide_eq_false (fun k : 0 ≤ a ∧ a ≤ (l.length : Int) => c1 ⟨h1, k⟩), Bool.and_false]
      · rw [decide_eq_false h1, Bool.false_and]
    clear h hr c1
    go_enter Try.func137, Try.ntmps137
    go_wp2_with fail
    refine (within2 _ _ _ _ _ _ _ _ (heap_alloc2_new w _ _)).mono ?_
    rintro e w1 ⟨rfl, hB⟩
    have hv : w1.heap[w.heap.size]? = some (.cells #[.int .i64 0, .int .i64 0] 176) := by rw [hB.block _ (by simp; omega)]; exact heap_alloc2_old w _ _
    have hb1 : Below w.heap.size w w1 := (below_alloc2 w _ _).trans (hB.mono (by simp; omega))
    obtain ⟨f1, f2, f3, f4⟩ := var2_facts hv
    have hset := var2_set (x' := .int .i64 3) (y' := .int .i64 0) hv
    have hbel := below_set2 (x := .int .i64 3) (y := .int .i64 0) hb1 (Nat.le_refl _)
    clear hB hv hb1
    go_wp2
    exact bodyPost_ret (v := .agg #[.int .i64 3, .int .i64 0]) (results_cell_row rfl _ _ w.heap.size 176 _ _ _ rfl hset Try.underlying176 rfl (by kernel_rfl)) rfl ⟨rfl, hbel⟩

end Go.Proofs.Ytmamdbmkjipahab.W
