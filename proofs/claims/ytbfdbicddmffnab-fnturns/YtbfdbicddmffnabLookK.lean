/-
  A key's bytes, looked up in a ring's map, in every world in which the map is what it was.
-/
import Derived.Test.YtbfdbicddmffnabIkrW
namespace Go.Proofs.Ytbfdbicddmffnab.W
open Go.ChangeShapes Go.WideShapes Go.ChangeAt Go.RowKit
open Go.Proofs.Ytbfdbicddmffnab.M

theorem look_at {b n : Nat} {D : DataW Value} (hG : GoodM D) (id' : Int) (hw : (Lit.int .i64 id').wf = true) : ∃ lx : List Nat, lx.length = 16 ∧ D.atKey (.int .i64 id') zK = .held (.agg (arr lx)) ∧
    ∀ w' : World, MapK w' b n D → (Instr.lookup 117 (.map (some b)) (.int .i64 id') true).run Try.prog w' = .ok (.tuple #[.agg (arr lx), .bool (Maps.has D (.int .i64 id'))]) w' := by
  obtain ⟨lx, h1, h2⟩ := hG (.int .i64 id')
  refine ⟨lx, h1, h2, fun w' hM => ?_⟩
  obtain ⟨v, ps, hr, hv⟩ := World.ownsMap.look_ok hM lawK Try.underlying117 (zeroH w') (zd := zK) (zp := []) rfl (Go.Maps.keyOf_int_mk Try.underlying2 hw)
  have h2' : D.atKey (.int .i64 id') zK = .held (.agg (arr lx)) := h2
  rw [h2'] at hv
  unfold Rv at hv
  simp only [Option.some.injEq, Prod.mk.injEq, DataW.held.injEq] at hv
  rw [hr, hv.1]
end Go.Proofs.Ytbfdbicddmffnab.W
