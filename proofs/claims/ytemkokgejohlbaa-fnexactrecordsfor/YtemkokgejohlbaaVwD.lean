/-
  Slices of claims: their places, their elements' type.
-/
import Derived.WalkSpells
import Derived.Test.YtemkokgejohlbaaVwF
import Derived.Test.YtemkokgejohlbaaClfW
namespace Go.Proofs.Ytemkokgejohlbaa.W
open Go.ChangeShapes Go.WideShapes Go.ChangeAt Go.RowKit
open Go.Proofs.Ytemkokgejohlbaa.M

theorem idx_ci (b o n c j : Nat) (hj : j < n) (w : World) : (Instr.indexAt 28 (.slice (some ⟨b, o, none⟩) n c) (.int .i64 (j : Int))).run Try.prog w = .ok (.pointer (some ⟨b, o + j * 4, none⟩)) w := by
  have hs : ∀ w : World, (sizeOf (Try.prog.elem 28)).run Try.prog w = .ok 4 w := fun _ => by kernel_rfl
  rw [run_indexAt_slice (P := Try.prog) w 28 _ n c .i64 (j : Int) (by kernel_rfl)]
  simp [hs, hj, Result.andThen, Addr.add_lit]
theorem infoC : (Try.prog.info? 39).map (fun i => (i.zero, i.size, i.bytes)) = some (some (.agg #[.int .i64 0, .int .i64 0, .int .i64 0, .int .i64 0]), 4, 32) := by kernel_rfl
end Go.Proofs.Ytemkokgejohlbaa.W
