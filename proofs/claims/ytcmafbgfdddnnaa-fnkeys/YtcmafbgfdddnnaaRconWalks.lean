/-
  The constants of the rounds: what the model's RoundConstant answers.
-/
import Derived.Test.YtcmafbgfdddnnaaInWalks
import Derived.Test.YtcmafbgfdddnnaaIrconWalks
import Derived.Test.YtcmafbgfdddnnaaSftWalks
namespace Go.Proofs.Ytcmafbgfdddnnaa.W
open Go.ChangeShapes Go.WideShapes Go.ChangeAt Go.RowKit
open Go.Proofs.Ytcmafbgfdddnnaa.M

theorem xtN1_ft (k : Nat) : ft (xtN 1 k) 2 = xtN 1 (k + 1) := ft2 _ (xtN1_lt k)

theorem sft2' (a : Nat) (ha : a < 256) (w : World) :
    Calls Try.prog 15 #[.int .u8 (a : Int), .int .u8 2] w fun e w' => e = .returned (.int .u8 (ft a 2 : Nat)) ∧ w' = w := by
  have h := sft a 2 ha (by omega) w
  rw [show ((2 : Nat) : Int) = 2 from rfl] at h
  exact h

set_option maxRecDepth 100000 in
theorem l2con (i : Nat) (w : World) (h1 : 1 ≤ i) (h2 : i ≤ 10) :
    Calls Try.prog 74 #[.int .i64 (i : Int)] w fun e w' => e = .returned (.int .u8 (xtN 1 (i - 1) : Nat)) ∧ w' = w := by
  go_enter Try.func74, Try.ntmps74
  go_wp2
  go_loop [0, 3] (fun j o => ∃ k : Nat, k + 1 ≤ i ∧ j = .int .i64 (i - k : Nat) ∧ o = .int .u8 (xtN 1 k : Nat)) (fun j _ => (intOf j).toNat)
  case atStart => exact ⟨0, by omega, rfl, rfl⟩
  case round =>
    obtain ⟨k, hk, rfl, rfl⟩ := hrel
    have hx := xtN1_lt k
    have X := hid (xtN1_ft k)
    obtain ⟨d, hd⟩ : ∃ d, d = i - k := ⟨_, rfl⟩
    have d1 : 1 ≤ d := by omega
    have d2 : d ≤ 10 := by omega
    have HD := hid hd
    rw [← hd]
    clear hd
    by_cases hlt : 1 < d
    · generalize xtN 1 k = x at *
      go_wp2_with fail
      refine (sft2' x hx _).mono ?_
      rintro e w' ⟨rfl, rfl⟩
      go_wp2_with fail
      have q := HD.out
      exact ⟨⟨k + 1, by omega, int_i64 (by omega), by rw [X.out]⟩, by simp [intOf]; omega⟩
    · have q := HD.out
      have hk8 : k = i - 1 := by omega
      subst hk8
      clear q
      go_wp2
      go_ret
      exact ⟨rfl, rfl⟩

set_option maxRecDepth 100000 in
theorem srcon (i : Int) (w : World) :
    Calls Try.prog 35 #[.int .i64 i] w fun e w' => e = .returned (.agg #[.int .i64 (rcC i), .int .i64 (rcV i)]) ∧ Below w.heap.size w w' := by
  by_cases h : 1 ≤ i ∧ i ≤ 10
  · have hin : inB i 1 10 = true := by unfold inB; exact decide_eq_true h
    have C : Hid (rcC i = 0) := by unfold Hid rcC; rw [if_pos h]
    have V : Hid (rcV i = ((xtN 1 (i.toNat - 1) : Nat) : Int)) := by unfold Hid rcV; rw [if_pos h]
    obtain ⟨n, rfl⟩ : ∃ t : Nat, i = t := ⟨i.toNat, by omega⟩
    rw [C.out, V.out, Int.toNat_natCast]
    have hx := xtN1_lt (n - 1)
    go_enter Try.func35, Try.ntmps35
    go_wp2_with (first | (go_at_call 64; refine (l1in _ _ _ _).mono ?_; rintro e w' ⟨rfl, rfl⟩) | (go_at_call 74; refine (l2con n _ (by omega) (by omega)).mono ?_; rintro e w' ⟨rfl, rfl⟩))
    exact bodyPost_ret (v := .agg #[.int .i64 0, .int .i64 (xtN 1 (n - 1) : Nat)]) (by simp [results, Try.results35, go_sem]) rfl ⟨rfl, below_alloc1 w _⟩
  · have hin : inB i 1 10 = false := by unfold inB; exact decide_eq_false h
    have C : Hid (rcC i = 3) := by unfold Hid rcC; rw [if_neg h]
    have V : Hid (rcV i = 0) := by unfold Hid rcV; rw [if_neg h]
    rw [C.out, V.out]
    clear h
    go_enter Try.func35, Try.ntmps35
    go_wp2_with (go_at_call 64; refine (l1in _ _ _ _).mono ?_; rintro e w' ⟨rfl, rfl⟩)
    exact bodyPost_ret (v := .agg #[.int .i64 3, .int .i64 0]) (by simp [results, Try.results35, go_sem]) rfl ⟨rfl, below_alloc1 w _⟩

end Go.Proofs.Ytcmafbgfdddnnaa.W
