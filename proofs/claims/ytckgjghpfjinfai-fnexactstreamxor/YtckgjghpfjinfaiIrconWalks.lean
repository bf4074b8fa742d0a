/-
  The constants of the rounds: what the program's RoundConstant answers.
-/
import Derived.Test.YtckgjghpfjinfaiWithin
import Derived.Test.YtckgjghpfjinfaiBox
import Derived.Test.YtckgjghpfjinfaiTpWalks
namespace Go.Proofs.Ytckgjghpfjinfai.W
open Go.ChangeShapes Go.WideShapes Go.ChangeAt Go.RowKit
open Go.Proofs.Ytckgjghpfjinfai.M

/-- The code and the value. -/
def rcC (i : Int) : Int := if 1 ≤ i ∧ i ≤ 10 then 0 else 3
def rcV (i : Int) : Int := if 1 ≤ i ∧ i ≤ 10 then ((xtN 1 (i.toNat - 1) : Nat) : Int) else 0
theorem xtN1_lt (k : Nat) : xtN 1 k < 256 := xtN_lt 1 (by omega) k
set_option maxRecDepth 100000 in
theorem ircon (i : Int) (w : World) :
    Calls Try.prog 101 #[.int .i64 i] w fun e w' => e = .returned (.agg #[.int .i64 (rcC i), .int .i64 (rcV i)]) ∧ Below w.heap.size w w' := by
  by_cases h : 1 ≤ i ∧ i ≤ 10
  · have hin : inB i 1 10 = true := by unfold inB; exact decide_eq_true h
    have C : Hid (rcC i = 0) := by unfold Hid rcC; rw [if_pos h]
    have V : Hid (rcV i = ((xtN 1 (i.toNat - 1) : Nat) : Int)) := by unfold Hid rcV; rw [if_pos h]
    obtain ⟨n, rfl⟩ : ∃ t : Nat, i = t := ⟨i.toNat, by omega⟩
    rw [C.out, V.out, Int.toNat_natCast]
    go_enter Try.func101, Try.ntmps101
    go_wp2_with fail
    refine (within1 _ _ _ _ _ (heap_alloc2_new w _ _)).mono ?_
    rintro e w1 ⟨rfl, hB⟩
    have hv : w1.heap[w.heap.size]? = some (.cells #[.int .i64 0, .int .i64 0] 139) := by rw [hB.block _ (by simp; omega)]; exact heap_alloc2_old w _ _
    have hb1 : Below w.heap.size w w1 := (below_alloc2 w _ _).trans (hB.mono (by simp; omega))
    clear hB
    go_wp2
    go_loop [3, 12] (fun p j => ∃ k : Nat, k + 1 ≤ n ∧ j = .int .i64 k ∧ p = .int .u8 (xtN 1 k : Nat)) (fun _ j => n - (intOf j).toNat)
    case atStart => exact ⟨0, by omega, rfl, rfl⟩
    case round =>
      obtain ⟨k, hk, rfl, rfl⟩ := hrel
      have hx := xtN1_lt k
      by_cases hlt : k + 1 < n
      · have X := hid (show xtN 1 (k + 1) = xt (xtN 1 k) from rfl)
        generalize xtN 1 k = x at *
        go_wp2_with fail
        refine (tp1 x hx _).mono ?_
        rintro e w' ⟨rfl, rfl⟩
        go_wp2_with fail
        exact ⟨⟨k + 1, by omega, by go_num, by rw [X.out]⟩, by simp [intOf]; omega⟩
      · have hk8 : k = n - 1 := by omega
        subst hk8
        obtain ⟨f1, f2, f3, f4⟩ := var2_facts hv
        have hset := var2_set (x' := .int .i64 0) (y' := .int .i64 (xtN 1 (n - 1) : Nat)) hv
        have hbel := below_set2 (x := .int .i64 0) (y := .int .i64 (xtN 1 (n - 1) : Nat)) hb1 (Nat.le_refl _)
        clear hv hb1
        go_wp2
        exact bodyPost_ret (v := .agg #[.int .i64 0, .int .i64 (xtN 1 (n - 1) : Nat)]) (results_cell_row rfl _ _ w.heap.size 139 _ _ _ rfl hset Try.underlying139 rfl (by kernel_rfl)) rfl ⟨rfl, hbel⟩
  · have hin : inB i 1 10 = false := by unfold inB; exact decide_eq_false h
    have C : Hid (rcC i = 3) := by unfold Hid rcC; rw [if_neg h]
    have V : Hid (rcV i = 0) := by unfold Hid rcV; rw [if_neg h]
    rw [C.out, V.out]
    clear h
    go_enter Try.func101, Try.ntmps101
    go_wp2_with fail
    refine (within1 _ _ _ _ _ (heap_alloc2_new w _ _)).mono ?_
    rintro e w1 ⟨rfl, hB⟩
    have hv : w1.heap[w.heap.size]? = some (.cells #[.int .i64 0, .int .i64 0] 139) := by rw [hB.block _ (by simp; omega)]; exact heap_alloc2_old w _ _
    have hb1 : Below w.heap.size w w1 := (below_alloc2 w _ _).trans (hB.mono (by simp; omega))
    obtain ⟨f1, f2, f3, f4⟩ := var2_facts hv
    have hset := var2_set (x' := .int .i64 3) (y' := .int .i64 0) hv
    have hbel := below_set2 (x := .int .i64 3) (y := .int .i64 0) hb1 (Nat.le_refl _)
    clear hB hv hb1
    go_wp2
    exact bodyPost_ret (v := .agg #[.int .i64 3, .int .i64 0]) (results_cell_row rfl _ _ w.heap.size 139 _ _ _ rfl hset Try.underlying139 rfl (by kernel_rfl)) rfl ⟨rfl, hbel⟩
end Go.Proofs.Ytckgjghpfjinfai.W
