/-
  Whom a node asks next: how the laws compare it.
-/
import Derived.Test.YtbleikbmnkjbeaoEqIr
namespace Go.Proofs.Ytbleikbmnkjbeao.W
open Go.ChangeShapes Go.WideShapes Go.ChangeAt Go.RowKit
open Go.Proofs.Ytbleikbmnkjbeao.M

theorem r2_facts {w : World} {g : Nat} {x y : Value} {T : TypeId} (h : w.heap[g]? = some (.cells #[x, y] T)) : w.cell? ⟨g, 0, none⟩ = some x ∧ w.cell? ⟨g, 1, none⟩ = some y :=
  ⟨(var2_facts h).1, (var2_facts h).2.1⟩
theorem eqIR2 (r : Int × Int) (w : World) :
    Calls Try.prog 29 #[.agg #[.int .i64 r.1, .int .i64 r.2], .agg #[.int .i64 r.1, .int .i64 r.2]] w fun e w' => e = .returned (.bool true) ∧ Below w.heap.size w w' := eqIR _ _ _
end Go.Proofs.Ytbleikbmnkjbeao.W
