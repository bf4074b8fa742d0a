/-
  Slices of claims: their places, their elements' type.
-/
import Derived.WalkSpells
import Derived.Test.YtalaolfcdaaaoaaVwF
import Derived.Test.YtalaolfcdaaaoaaClfW
namespace Go.Proofs.Ytalaolfcdaaaoaa.W
open Go.ChangeShapes Go.WideShapes Go.ChangeAt Go.RowKit
open Go.Proofs.Ytalaolfcdaaaoaa.M

theorem idx_ci (b o n c j : Nat) (hj : j < n) (w : World) : (Instr.indexAt 24 (.slice (some ⟨b, o, none⟩) n c) (.int .i64 (j : Int))).run Try.prog w = .ok (.pointer (some ⟨b, o + j * 4, none⟩)) w := by
  have hs : ∀ w : World, (sizeOf (Try.prog.elem 24)).run Try.prog w = .ok 4 w := fun _ => by kernel_rfl
  rw [run_indexAt_slice (P := Try.prog) w 24 _ n c .i64 (j : Int) (by kernel_rfl)]
  simp [hs, hj, Result.andThen, Addr.add_lit]
theorem infoC : (Try.prog.info? 38).map (fun i => (i.zero, i.size, i.bytes)) = some (some (.agg #[.int .i64 0, .int .i64 0, .int .i64 0, .int .i64 0]), 4, 32) := by kernel_rfl
end Go.Proofs.Ytalaolfcdaaaoaa.W
