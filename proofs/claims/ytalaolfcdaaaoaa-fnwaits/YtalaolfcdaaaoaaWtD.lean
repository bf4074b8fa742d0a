/-
  Slices of waits: their places, their elements' type.
-/
import Derived.WalkSpells
import Derived.Test.YtalaolfcdaaaoaaWtF
import Derived.Test.YtalaolfcdaaaoaaBase
namespace Go.Proofs.Ytalaolfcdaaaoaa.W
open Go.ChangeShapes Go.WideShapes Go.ChangeAt Go.RowKit
open Go.Proofs.Ytalaolfcdaaaoaa.M

theorem idx_ji (b o n c j : Nat) (hj : j < n) (w : World) : (Instr.indexAt 42 (.slice (some ⟨b, o, none⟩) n c) (.int .i64 (j : Int))).run Try.prog w = .ok (.pointer (some ⟨b, o + j * 7, none⟩)) w := by
  have hs : ∀ w : World, (sizeOf (Try.prog.elem 42)).run Try.prog w = .ok 7 w := fun _ => by kernel_rfl
  rw [run_indexAt_slice (P := Try.prog) w 42 _ n c .i64 (j : Int) (by kernel_rfl)]
  simp [hs, hj, Result.andThen, Addr.add_lit]
theorem infoJ : (Try.prog.info? 63).map (fun i => (i.zero, i.size, i.bytes)) = some (some (.agg #[.int .i64 0, .int .i64 0, .int .i64 0, .int .i64 0, .int .i64 0, .int .i64 0, .int .i64 0]), 7, 56) := by kernel_rfl
end Go.Proofs.Ytalaolfcdaaaoaa.W
