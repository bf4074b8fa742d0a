/-
  What RefuteBy, SuspectBy and BuryBy answer: a code, a claim, and if it was made.
-/
import Derived.Test.YtalaolfcdaaaoaaVwFx
import Derived.Test.YtalaolfcdaaaoaaVwM
namespace Go.Proofs.Ytalaolfcdaaaoaa.W
open Go.ChangeShapes Go.WideShapes Go.ChangeAt Go.RowKit
open Go.Proofs.Ytalaolfcdaaaoaa.M

theorem v6_facts {w : World} {g : Nat} {x0 x1 x2 x3 x4 x5 : Value} {T : TypeId} (h : w.heap[g]? = some (.cells #[x0, x1, x2, x3, x4, x5] T)) :
    (w.cell? ⟨g, 0, none⟩ = some x0 ∧ w.cell? ⟨g, 1, none⟩ = some x1 ∧ w.cell? ⟨g, 2, none⟩ = some x2 ∧ w.cell? ⟨g, 3, none⟩ = some x3 ∧ w.cell? ⟨g, 4, none⟩ = some x4 ∧ w.cell? ⟨g, 5, none⟩ = some x5) ∧ (w.frozen? ⟨g, 0, none⟩ = false ∧ w.frozen? ⟨g, 1, none⟩ = false ∧ w.frozen? ⟨g, 2, none⟩ = false ∧ w.frozen? ⟨g, 3, none⟩ = false ∧ w.frozen? ⟨g, 4, none⟩ = false ∧ w.frozen? ⟨g, 5, none⟩ = false) :=
  ⟨⟨by rw [cell_of_row w g 0 _ _ _ h]; rfl, by rw [cell_of_row w g 1 _ _ _ h]; rfl, by rw [cell_of_row w g 2 _ _ _ h]; rfl, by rw [cell_of_row w g 3 _ _ _ h]; rfl, by rw [cell_of_row w g 4 _ _ _ h]; rfl, by rw [cell_of_row w g 5 _ _ _ h]; rfl⟩, ⟨frozen_of_row w g 0 _ T h, frozen_of_row w g 1 _ T h, frozen_of_row w g 2 _ T h, frozen_of_row w g 3 _ T h, frozen_of_row w g 4 _ T h, frozen_of_row w g 5 _ T h⟩⟩
theorem v6_set {w : World} {g : Nat} {x0 x1 x2 x3 x4 x5 y0 y1 y2 y3 y4 y5 : Value} {T : TypeId} (h : w.heap[g]? = some (.cells #[x0, x1, x2, x3, x4, x5] T)) :
    ((((((w.setCell ⟨g, 0, none⟩ (y0)).setCell ⟨g, 1, none⟩ (y1)).setCell ⟨g, 2, none⟩ (y2)).setCell ⟨g, 3, none⟩ (y3)).setCell ⟨g, 4, none⟩ (y4)).setCell ⟨g, 5, none⟩ (y5)).heap[g]? = some (.cells #[y0, y1, y2, y3, y4, y5] T) := by
  have h0 := heap_setCell_same w g 0 _ T y0 h
  have h1 := heap_setCell_same _ g 1 _ T y1 h0
  have h2 := heap_setCell_same _ g 2 _ T y2 h1
  have h3 := heap_setCell_same _ g 3 _ T y3 h2
  have h4 := heap_setCell_same _ g 4 _ T y4 h3
  have h5 := heap_setCell_same _ g 5 _ T y5 h4
  simpa using h5
theorem v6_below {w w0 : World} {B g : Nat} {y0 y1 y2 y3 y4 y5 : Value} (h : Below B w0 w) (hg : B ≤ g) : Below B w0 ((((((w.setCell ⟨g, 0, none⟩ (y0)).setCell ⟨g, 1, none⟩ (y1)).setCell ⟨g, 2, none⟩ (y2)).setCell ⟨g, 3, none⟩ (y3)).setCell ⟨g, 4, none⟩ (y4)).setCell ⟨g, 5, none⟩ (y5)) :=
  (((((h.setCell (p := ⟨g, 0, none⟩) hg y0).setCell (p := ⟨g, 1, none⟩) hg y1).setCell (p := ⟨g, 2, none⟩) hg y2).setCell (p := ⟨g, 3, none⟩) hg y3).setCell (p := ⟨g, 4, none⟩) hg y4).setCell (p := ⟨g, 5, none⟩) hg y5
theorem cr_row {w : World} {g : Nat} {old new : Array Value} {T : TypeId} (h : w.heap[g]? = some (.cells old T)) : (w.setRow g new).heap[g]? = some (.cells new T) := setRow_heap w g old new T _ h
theorem cr_grown (w : World) (g : Nat) (L : Array Value) : w.grownBy (w.setRow g L) (some g) :=
  ⟨rfl, rfl, rfl, by simp [World.setRow], fun k hk hne => setRow_other w g k L (fun e => hne (by rw [e]))⟩
theorem cr_below {w0 w : World} {g : Nat} {L : Array Value} (h : Below w0.heap.size w0 w) (hg : w0.heap.size ≤ g) : Below w0.heap.size w0 (w.setRow g L) :=
  h.grown (cr_grown w g L) h.size (fun b e => by cases e; exact hg)
theorem cr_info (L : Array Value) (h : L.size = 6) : (Try.prog.info? 57).map (·.size) = some L.size := by rw [h]; kernel_rfl
theorem cr_one (c n i s m : Int) (t : Bool) : (#[.int .i64 c, .int .i64 n, .int .i64 i, .int .i64 s, .int .i64 m, .bool t] : Array Value).all (·.oneCell') = true := by simp [Value.oneCell']
theorem buildC {P : Program} {ops : Array Oper} {rest : List Oper} {o : Oper} {a : Act} {w : World} {Q : Exit → Act → World → Prop} (hg : o.guard = none) (t : TypeId) (parts : Array (Nat × Operand)) (ho : o.op = .build t parts) (cells : Array Value)
    (hb : P.built t (parts.map fun (i, x) => (i, a.eval x)).toList = some cells) (h : wpList P ops Q rest (a.put o.dst (.agg cells)) w) : wpList P ops Q (o :: rest) a w := by
  refine wpList_build hg t parts ho (by rw [hb]; rfl) ?_
  rw [hb]
  exact h
set_option maxRecDepth 100000 in
theorem cr_b0 (c : Int) : Try.prog.built 57 [(0, .int .i64 c)] = some #[.int .i64 c, .int .i64 0, .int .i64 0, .int .i64 0, .int .i64 0, .bool false] := by kernel_rfl
set_option maxRecDepth 100000 in
theorem cr_b1 (n i s m : Int) : Try.prog.built 57 [(1, .agg #[.int .i64 n, .int .i64 i, .int .i64 s, .int .i64 m])] = some #[.int .i64 0, .int .i64 n, .int .i64 i, .int .i64 s, .int .i64 m, .bool false] := by kernel_rfl
set_option maxRecDepth 100000 in
theorem cr_b12 (n i s m : Int) (t : Bool) : Try.prog.built 57 [(1, .agg #[.int .i64 n, .int .i64 i, .int .i64 s, .int .i64 m]), (2, .bool t)] = some #[.int .i64 0, .int .i64 n, .int .i64 i, .int .i64 s, .int .i64 m, .bool t] := by kernel_rfl
theorem cr_e0 {c : Int} {x : List (Nat × Value)} (h : x = [(0, .int .i64 c)]) : Try.prog.built 57 x = some #[.int .i64 c, .int .i64 0, .int .i64 0, .int .i64 0, .int .i64 0, .bool false] := by rw [h]; exact cr_b0 c
theorem cr_e1 {n i s m : Int} {x : List (Nat × Value)} (h : x = [(1, .agg #[.int .i64 n, .int .i64 i, .int .i64 s, .int .i64 m])]) : Try.prog.built 57 x = some #[.int .i64 0, .int .i64 n, .int .i64 i, .int .i64 s, .int .i64 m, .bool false] := by rw [h]; exact cr_b1 n i s m
theorem cr_e12 {n i s m : Int} {t : Bool} {x : List (Nat × Value)} (h : x = [(1, .agg #[.int .i64 n, .int .i64 i, .int .i64 s, .int .i64 m]), (2, .bool t)]) : Try.prog.built 57 x = some #[.int .i64 0, .int .i64 n, .int .i64 i, .int .i64 s, .int .i64 m, .bool t] := by rw [h]; exact cr_b12 n i s m t
theorem var4_factsC {w' : World} {g : Nat} {x y z u : Value} {T : TypeId} (h : w'.heap[g]? = some (.cells #[x, y, z, u] T)) :
    (w'.cell? ⟨g, 0, none⟩ = some x ∧ w'.cell? ⟨g, 1, none⟩ = some y ∧ w'.cell? ⟨g, 2, none⟩ = some z ∧ w'.cell? ⟨g, 3, none⟩ = some u) ∧ w'.frozen? ⟨g, 0, none⟩ = false ∧ w'.frozen? ⟨g, 1, none⟩ = false ∧ w'.frozen? ⟨g, 2, none⟩ = false ∧ w'.frozen? ⟨g, 3, none⟩ = false :=
  ⟨⟨by rw [cell_of_row w' g 0 _ _ _ h]; rfl, by rw [cell_of_row w' g 1 _ _ _ h]; rfl, by rw [cell_of_row w' g 2 _ _ _ h]; rfl, by rw [cell_of_row w' g 3 _ _ _ h]; rfl⟩, frozen_of_row w' g 0 _ T h, frozen_of_row w' g 1 _ T h, frozen_of_row w' g 2 _ T h, frozen_of_row w' g 3 _ T h⟩
theorem var_setotherC {w : World} {g k i : Nat} {o : Obj} {x : Value} (h : w.heap[g]? = some o) (hne : g ≠ k) : (w.setCell ⟨k, i, none⟩ x).heap[g]? = some o := by
  rw [Below.heap_setCell _ _ _ _ hne]; exact h
theorem clC_i {c : Clm} (h : clC c = 0) : 0 ≤ c.i ∧ c.i ≤ 1000000 := by
  unfold clC clF at h
  split at h
  · rename_i q
    simp only [inB, decide_eq_true_eq] at q
    exact q.2.1
  · cases h
/-- What RefuteBy answers. -/
def rfA (own c : Clm) : Int × Clm × Bool :=
  if clC own ≠ 0 then (clC own, zC, false) else if clC c ≠ 0 then (clC c, zC, false) else if c.n ≠ own.n then (1, zC, false) else if bC c own = false then (0, own, false) else if 1000000 ≤ c.i then (7, zC, false) else (0, ⟨own.n, c.i + 1, 0, own.m⟩, true)
/-- What SuspectBy answers. -/
def suA (cs : List Clm) (n : Int) : Int × Clm × Bool :=
  if vF cs ≠ 0 then (vF cs, zC, false) else if hasN cs n = false then (4, zC, false) else if (cs.getD (lb cs n) zC).s = 0 then (0, ⟨(cs.getD (lb cs n) zC).n, (cs.getD (lb cs n) zC).i, 1, (cs.getD (lb cs n) zC).m⟩, true) else (0, cs.getD (lb cs n) zC, false)
theorem su_fault {cs : List Clm} {n : Int} (h : vF cs ≠ 0) : suA cs n = (vF cs, zC, false) := by rw [suA, if_pos h]
theorem su_none {cs : List Clm} {n : Int} (h : vF cs = 0) (q : hasN cs n = false) : suA cs n = (4, zC, false) := by rw [suA, if_neg (by simp [h]), if_pos q]
theorem su_made {cs : List Clm} {n : Int} (h : vF cs = 0) (q : hasN cs n = true) {X : Clm} (hX : X = cs.getD (lb cs n) zC) (h0 : X.s = 0) : suA cs n = (0, ⟨X.n, X.i, 1, X.m⟩, true) := by rw [suA, if_neg (by simp [h]), if_neg (by simp [q]), ← hX, if_pos h0]
theorem su_same {cs : List Clm} {n : Int} (h : vF cs = 0) (q : hasN cs n = true) {X : Clm} (hX : X = cs.getD (lb cs n) zC) (h0 : X.s ≠ 0) : suA cs n = (0, X, false) := by rw [suA, if_neg (by simp [h]), if_neg (by simp [q]), ← hX, if_neg h0]
end Go.Proofs.Ytalaolfcdaaaoaa.W
