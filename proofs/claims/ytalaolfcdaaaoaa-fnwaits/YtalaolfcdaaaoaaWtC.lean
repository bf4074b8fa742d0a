/-
  What the walks of parted want: a struct and a bool told together; rows under a store.
-/
import Derived.Test.YtalaolfcdaaaoaaWtSa
namespace Go.Proofs.Ytalaolfcdaaaoaa.W
open Go.ChangeShapes Go.WideShapes Go.ChangeAt Go.RowKit
open Go.Proofs.Ytalaolfcdaaaoaa.M

theorem results_ct {P : Program} {fn : Func} {p q : Tmp} {ty' : TypeId} (h : fn.results = #[.cell q ty', .tmp p]) (tmps : Array Value) (w : World) (x : Value) (g' : Nat) (t' : TypeId) (cs' : Array Value) (fr' : Nat × Nat) (d' : TypeDesc)
    (hp : tmps.getD p undef = x) (hq : tmps.getD q undef = .pointer (some ⟨g', 0, none⟩)) (hg' : w.heap[g']? = some (.cells cs' t' fr'))
    (hu' : P.underlying ty' = some d') (hd' : (match d' with | .struct _ | .array _ _ => true | _ => false) = true) (hi' : (P.info? ty').map (·.size) = some cs'.size) :
    (results fn tmps).run P w = .ok (.tuple #[.agg cs', x]) w := by
  have hp' : tmps[p]?.getD undef = x := by simpa using hp
  have hq' : tmps[q]?.getD undef = .pointer (some ⟨g', 0, none⟩) := by simpa using hq
  simp [results, h, hp', hq', asAddr, run_loadVar_row w g' t' ty' cs' fr' d' hg' hu' hd' hi']
theorem Two.under {w : World} {base : Nat} {v u : Value} {l m : List Wai} (h : Two w base v l u m) (a : Addr) (ha : a.block < base) (x : Value) : Two (w.setCell a x) base v l u m :=
  ⟨ownsRow_setCell_below h.1 ha x, ownsRow_setCell_below h.2.1 ha x, h.2.2⟩
theorem Two.lower {w : World} {base lo : Nat} {v u : Value} {l m : List Wai} (h : Two w base v l u m) (hb : lo ≤ base) : Two w lo v l u m := ⟨h.1.mono hb, h.2.1.mono hb, h.2.2⟩
theorem Two.grownOf {w w' : World} {base : Nat} {v u : Value} {l m : List Wai} (h : Two w base v l u m) (hB : Below w.heap.size w w') : Two w' base v l u m := h.below hB
/-- A variable under a store into another one, and under a row that grew. -/
theorem var_setother {w : World} {g k i : Nat} {o : Obj} {x : Value} (h : w.heap[g]? = some o) (hne : g ≠ k) : (w.setCell ⟨k, i, none⟩ x).heap[g]? = some o := by
  rw [Below.heap_setCell _ _ _ _ hne]; exact h
theorem var_grownN {w w' : World} {g : Nat} {r : Option Nat} {o : Obj} (hG : w.grownBy w' r) (h : w.heap[g]? = some o) (hn : r ≠ some g) : w'.heap[g]? = some o := by
  rw [hG.block g (Array.getElem?_eq_some_iff.1 h).1 (fun e => hn (by rw [← e]))]; exact h
theorem set1_of3 {w : World} {g : Nat} {x y z y' : Value} {T : TypeId} (h : w.heap[g]? = some (.cells #[x, y, z] T)) : (w.setCell ⟨g, 1, none⟩ y').heap[g]? = some (.cells #[x, y', z] T) := by
  simpa using heap_setCell_same w g 1 _ T y' h
theorem set2_of3 {w : World} {g : Nat} {x y z z' : Value} {T : TypeId} (h : w.heap[g]? = some (.cells #[x, y, z] T)) : (w.setCell ⟨g, 2, none⟩ z').heap[g]? = some (.cells #[x, y, z'] T) := by
  simpa using heap_setCell_same w g 2 _ T z' h
end Go.Proofs.Ytalaolfcdaaaoaa.W
