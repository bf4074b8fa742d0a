/-
  The products of bytes: what the model's FieldTimes answers.
-/
import Derived.Test.YtckgjghpfjinfabRows
import Derived.Test.YtckgjghpfjinfabBytes
import Derived.WalkKit
import Derived.ProofKit
import Derived.WalkSpells
namespace Go.Proofs.Ytckgjghpfjinfab.W
open Go.ChangeShapes Go.WideShapes Go.ChangeAt Go.RowKit
open Go.Proofs.Ytckgjghpfjinfab.M

set_option maxRecDepth 100000 in
theorem sft (a b : Nat) (ha : a < 256) (hb : b < 256) (w : World) :
    Calls Try.prog 118 #[.int .u8 (a : Int), .int .u8 (b : Int)] w fun e w' => e = .returned (.int .u8 (ft a b : Nat)) ∧ w' = w := by
  go_enter Try.func118, Try.ntmps118
  go_wp2
  go_loop [0, 1, 5, 6, 7] (fun a' b' out i hi => ∃ k : Nat, ∃ h : Value, k ≤ 8 ∧ i = .int .i64 k ∧ a' = .int .u8 (xtN a k : Nat) ∧ b' = .int .u8 (b / 2 ^ k : Nat) ∧ out = .int .u8 (acc a b k : Nat) ∧ hi = h) (fun _ _ _ i _ => 8 - (intOf i).toNat)
  case atStart => exact ⟨0, _, by omega, rfl, by simp [xtN], by simp, by simp [acc], rfl⟩
  case round =>
    obtain ⟨k, h, hk, rfl, rfl, rfl, rfl, rfl⟩ := hrel
    by_cases hlt : k < 8
    · have hx := xtN_lt a ha k
      have ho := acc_lt a b ha k
      have hy : b / 2 ^ k < 256 := Nat.lt_of_le_of_lt (Nat.div_le_self _ _) hb
      have Hy : Hid (acc a b (k + 1) = if b / 2 ^ k % 2 = 1 then acc a b k ^^^ xtN a k else acc a b k) := rfl
      have Hp : Hid (b / 2 ^ (k + 1) = b / 2 ^ k / 2) := (half_pow b k).symm
      generalize b / 2 ^ k = y at *
      go_wp2
      all_goals
        go_round
        case rel =>
          refine ⟨k + 1, _, by omega, by go_num, ?_, ?_, ?_, rfl⟩
          · first | exact int_u8 (xt_hi _ ‹_› hx) | exact int_u8 (xt_lo _ ‹_›)
          · rw [Hp.out]; exact int_u8 (by omega)
          · rw [Hy.out]; first | (rw [if_pos (by have := beq_iff_eq.1 ‹((y : Int) % 2 == 1) = true›; omega)]; exact int_u8 (xor8 _ _ ho hx)) | (rw [if_neg (by have := beq_eq_false_iff_ne.1 ‹((y : Int) % 2 == 1) = false›; omega)])
        case measure => simp [intOf]; omega
    · have hk8 : k = 8 := by omega
      subst hk8
      go_wp2
      go_ret
      exact ⟨rfl, rfl⟩

end Go.Proofs.Ytckgjghpfjinfab.W
