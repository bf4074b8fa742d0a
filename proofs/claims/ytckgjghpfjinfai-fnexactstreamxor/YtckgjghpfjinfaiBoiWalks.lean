/-
  The box of the byte whose inverse is known: what the program's boxOfInverse answers.
-/
import Derived.Test.YtckgjghpfjinfaiRows
import Derived.Test.YtckgjghpfjinfaiBox
import Derived.WalkKit
import Derived.ProofKit
import Derived.WalkSpells
namespace Go.Proofs.Ytckgjghpfjinfai.W
open Go.ChangeShapes Go.WideShapes Go.ChangeAt Go.RowKit
open Go.Proofs.Ytckgjghpfjinfai.M

theorem rot_0 (x : Nat) (hx : x < 256) : bits .or .u8 (x : Int) ((x : Int) / 256) = ((rot x 0 : Nat) : Int) := by
  have h := rot_at x 1 256 hx
  have e : (x : Int) * ((1 : Nat) : Int) % 256 = x := by omega
  rw [e] at h
  exact h

theorem rotl (x : Nat) (k : Int) (hx : x < 256) (hk : k = 0 ∨ k = -4 ∨ k = -5 ∨ k = -6 ∨ k = -7) (w : World) :
    Calls Try.prog 115 #[.int .u8 (x : Int), .int .i64 k] w fun e w' => e = .returned (.int .u8 (rot x (-k).toNat : Nat)) ∧ w' = w := by
  have f0 : bits .and .u64 0 7 = 0 := by decide +kernel
  have f4 : bits .and .u64 (IntKind.u64.wrap (-4)) 7 = 4 := by decide +kernel
  have f5 : bits .and .u64 (IntKind.u64.wrap (-5)) 7 = 3 := by decide +kernel
  have f6 : bits .and .u64 (IntKind.u64.wrap (-6)) 7 = 2 := by decide +kernel
  have f7 : bits .and .u64 (IntKind.u64.wrap (-7)) 7 = 1 := by decide +kernel
  rcases hk with rfl | rfl | rfl | rfl | rfl
  all_goals
    go_enter Try.func115, Try.ntmps115
    go_wp2
    go_ret
    refine ⟨ret_int ?_, rfl⟩
  · exact rot_0 x hx
  · exact rot_4 x hx
  · exact rot_5 x hx
  · exact rot_6 x hx
  · exact rot_7 x hx

set_option maxRecDepth 100000 in
theorem boi (x : Nat) (hl : x < 256) (w : World) :
    Calls Try.prog 99 #[.int .u8 (x : Int)] w fun e w' => e = .returned (.int .u8 (bi x : Nat)) ∧ w' = w := by
  have X : Hid (bi x = ((((99 ^^^ rot x 0) ^^^ rot x 4) ^^^ rot x 5) ^^^ rot x 6) ^^^ rot x 7) := rfl
  have i0 : ∀ w : World, (Instr.index 150 (.agg #[.int .i64 0, .int .i64 4, .int .i64 5, .int .i64 6, .int .i64 7]) (.int .i64 0)).run Try.prog w = .ok (.int .i64 0) w := fun _ => by kernel_rfl
  have i1 : ∀ w : World, (Instr.index 150 (.agg #[.int .i64 0, .int .i64 4, .int .i64 5, .int .i64 6, .int .i64 7]) (.int .i64 1)).run Try.prog w = .ok (.int .i64 4) w := fun _ => by kernel_rfl
  have i2 : ∀ w : World, (Instr.index 150 (.agg #[.int .i64 0, .int .i64 4, .int .i64 5, .int .i64 6, .int .i64 7]) (.int .i64 2)).run Try.prog w = .ok (.int .i64 5) w := fun _ => by kernel_rfl
  have i3 : ∀ w : World, (Instr.index 150 (.agg #[.int .i64 0, .int .i64 4, .int .i64 5, .int .i64 6, .int .i64 7]) (.int .i64 3)).run Try.prog w = .ok (.int .i64 6) w := fun _ => by kernel_rfl
  have i4 : ∀ w : World, (Instr.index 150 (.agg #[.int .i64 0, .int .i64 4, .int .i64 5, .int .i64 6, .int .i64 7]) (.int .i64 4)).run Try.prog w = .ok (.int .i64 7) w := fun _ => by kernel_rfl
  go_enter Try.func99, Try.ntmps99
  go_wp2
  refine wp_loop_rounds 6 ?_
  iterate 6
    rw [rounds_succ]
    go_wp2_with (go_at_call 115; refine (rotl x _ hl ?_ _).mono ?_; (omega); rintro e w' ⟨rfl, rfl⟩)
  go_ret
  exact ⟨ret_int (by rw [X.out]; exact sbx_sum x hl), rfl⟩

end Go.Proofs.Ytckgjghpfjinfai.W
