/-
  A source and what is kept where a variable is stored into.
-/
import Derived.Test.YtbfdbicddmffnabSrc
import Derived.Test.YtbfdbicddmffnabChn
namespace Go.Proofs.Ytbfdbicddmffnab.W
open Go.ChangeShapes Go.WideShapes Go.ChangeAt Go.RowKit
open Go.Proofs.Ytbfdbicddmffnab.M

theorem results_cc {P : Program} {fn : Func} {p q : Tmp} {ty ty' : TypeId} (h : fn.results = #[.cell p ty, .cell q ty']) (tmps : Array Value) (w : World) (g g' : Nat) (t t' : TypeId) (cs cs' : Array Value) (fr fr' : Nat × Nat) (d d' : TypeDesc)
    (hp : tmps.getD p undef = .pointer (some ⟨g, 0, none⟩)) (hq : tmps.getD q undef = .pointer (some ⟨g', 0, none⟩)) (hg : w.heap[g]? = some (.cells cs t fr)) (hg' : w.heap[g']? = some (.cells cs' t' fr'))
    (hu : P.underlying ty = some d) (hd : (match d with | .struct _ | .array _ _ => true | _ => false) = true) (hi : (P.info? ty).map (·.size) = some cs.size)
    (hu' : P.underlying ty' = some d') (hd' : (match d' with | .struct _ | .array _ _ => true | _ => false) = true) (hi' : (P.info? ty').map (·.size) = some cs'.size) :
    (results fn tmps).run P w = .ok (.tuple #[.agg cs, .agg cs']) w := by
  have hp' : tmps[p]?.getD undef = .pointer (some ⟨g, 0, none⟩) := by simpa using hp
  have hq' : tmps[q]?.getD undef = .pointer (some ⟨g', 0, none⟩) := by simpa using hq
  simp [results, h, hp', hq', asAddr, run_loadVar_row w g t ty cs fr d hg hu hd hi, run_loadVar_row w g' t' ty' cs' fr' d' hg' hu' hd' hi']
theorem src_set {w0 w : World} {g V i : Nat} {v : Value} {l : List Nat} {t : Nat} (h : Src w0 w g v l t) (hne : g ≠ V) (hV : w0.heap.size ≤ V) (x : Value) : Src w0 (w.setCell ⟨V, i, none⟩ x) g v l t :=
  h.grown (show w.grownBy (w.setCell ⟨V, i, none⟩ x) (some V) from ⟨by simp [World.setCell], by simp [World.setCell], by simp [World.setCell], by simp, fun k hk hn => Below.heap_setCell _ _ _ _ (fun e => hn (by rw [e]))⟩) (fun e => hne (Option.some.inj e)) (fun k e => by cases e; exact hV)
theorem grown_set {w w' : World} {g V i : Nat} (h : w.grownBy w' (some g)) (hV : w.heap.size ≤ V) (x : Value) : w.grownBy (w'.setCell ⟨V, i, none⟩ x) (some g) :=
  ⟨by simpa [World.setCell] using h.os, by simpa [World.setCell] using h.tape, by simpa [World.setCell] using h.output, by simpa using h.size, fun k hk hn => by rw [Below.heap_setCell _ _ _ _ (by show k ≠ V; omega)]; exact h.block k hk hn⟩
theorem grown_alloc {w w' : World} {g : Nat} (h : w.grownBy w' (some g)) (x : Obj) : w.grownBy (w'.alloc x) (some g) :=
  grown_trans h (grown_of_below (below_alloc1 w' x) (some g))
end Go.Proofs.Ytbfdbicddmffnab.W
