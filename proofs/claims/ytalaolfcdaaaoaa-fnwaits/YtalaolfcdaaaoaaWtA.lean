/-
  append of a wait to a row that is the call's own; two rows that are the call's own and lie apart; a wait's variable.
-/
import Derived.Test.YtalaolfcdaaaoaaWtD
import Derived.Test.YtalaolfcdaaaoaaArr
import Derived.Laws.AppendOwn
import Derived.Deep.AppendLies
namespace Go.Proofs.Ytalaolfcdaaaoaa.W
open Go.ChangeShapes Go.WideShapes Go.ChangeAt Go.RowKit
open Go.Proofs.Ytalaolfcdaaaoaa.M

theorem v7_facts {w : World} {g : Nat} {x0 x1 x2 x3 x4 x5 x6 : Value} {T : TypeId} (h : w.heap[g]? = some (.cells #[x0, x1, x2, x3, x4, x5, x6] T)) :
    (w.cell? ⟨g, 0, none⟩ = some x0 ∧ w.cell? ⟨g, 1, none⟩ = some x1 ∧ w.cell? ⟨g, 2, none⟩ = some x2 ∧ w.cell? ⟨g, 3, none⟩ = some x3 ∧ w.cell? ⟨g, 4, none⟩ = some x4 ∧ w.cell? ⟨g, 5, none⟩ = some x5 ∧ w.cell? ⟨g, 6, none⟩ = some x6) ∧ (w.frozen? ⟨g, 0, none⟩ = false ∧ w.frozen? ⟨g, 1, none⟩ = false ∧ w.frozen? ⟨g, 2, none⟩ = false ∧ w.frozen? ⟨g, 3, none⟩ = false ∧ w.frozen? ⟨g, 4, none⟩ = false ∧ w.frozen? ⟨g, 5, none⟩ = false ∧ w.frozen? ⟨g, 6, none⟩ = false) :=
  ⟨⟨by rw [cell_of_row w g 0 _ _ _ h]; rfl, by rw [cell_of_row w g 1 _ _ _ h]; rfl, by rw [cell_of_row w g 2 _ _ _ h]; rfl, by rw [cell_of_row w g 3 _ _ _ h]; rfl, by rw [cell_of_row w g 4 _ _ _ h]; rfl, by rw [cell_of_row w g 5 _ _ _ h]; rfl, by rw [cell_of_row w g 6 _ _ _ h]; rfl⟩, ⟨frozen_of_row w g 0 _ T h, frozen_of_row w g 1 _ T h, frozen_of_row w g 2 _ T h, frozen_of_row w g 3 _ T h, frozen_of_row w g 4 _ T h, frozen_of_row w g 5 _ T h, frozen_of_row w g 6 _ T h⟩⟩
theorem v7_set {w : World} {g : Nat} {x0 x1 x2 x3 x4 x5 x6 y0 y1 y2 y3 y4 y5 y6 : Value} {T : TypeId} (h : w.heap[g]? = some (.cells #[x0, x1, x2, x3, x4, x5, x6] T)) :
    (((((((w.setCell ⟨g, 0, none⟩ y0).setCell ⟨g, 1, none⟩ y1).setCell ⟨g, 2, none⟩ y2).setCell ⟨g, 3, none⟩ y3).setCell ⟨g, 4, none⟩ y4).setCell ⟨g, 5, none⟩ y5).setCell ⟨g, 6, none⟩ y6).heap[g]? = some (.cells #[y0, y1, y2, y3, y4, y5, y6] T) := by
  have h0 := heap_setCell_same w g 0 _ T y0 h
  have h1 := heap_setCell_same _ g 1 _ T y1 h0
  have h2 := heap_setCell_same _ g 2 _ T y2 h1
  have h3 := heap_setCell_same _ g 3 _ T y3 h2
  have h4 := heap_setCell_same _ g 4 _ T y4 h3
  have h5 := heap_setCell_same _ g 5 _ T y5 h4
  have h6 := heap_setCell_same _ g 6 _ T y6 h5
  simpa using h6
theorem v7_size (w : World) (g : Nat) (y0 y1 y2 y3 y4 y5 y6 : Value) : (((((((w.setCell ⟨g, 0, none⟩ y0).setCell ⟨g, 1, none⟩ y1).setCell ⟨g, 2, none⟩ y2).setCell ⟨g, 3, none⟩ y3).setCell ⟨g, 4, none⟩ y4).setCell ⟨g, 5, none⟩ y5).setCell ⟨g, 6, none⟩ y6).heap.size = w.heap.size := by simp [World.setCell]
theorem v7_below {w w0 : World} {B g : Nat} {y0 y1 y2 y3 y4 y5 y6 : Value} (h : Below B w0 w) (hg : B ≤ g) : Below B w0 (((((((w.setCell ⟨g, 0, none⟩ y0).setCell ⟨g, 1, none⟩ y1).setCell ⟨g, 2, none⟩ y2).setCell ⟨g, 3, none⟩ y3).setCell ⟨g, 4, none⟩ y4).setCell ⟨g, 5, none⟩ y5).setCell ⟨g, 6, none⟩ y6) :=
  ((((((h.setCell (p := ⟨g, 0, none⟩) hg y0).setCell (p := ⟨g, 1, none⟩) hg y1).setCell (p := ⟨g, 2, none⟩) hg y2).setCell (p := ⟨g, 3, none⟩) hg y3).setCell (p := ⟨g, 4, none⟩) hg y4).setCell (p := ⟨g, 5, none⟩) hg y5).setCell (p := ⟨g, 6, none⟩) hg y6
theorem v7_other {w : World} {g k : Nat} {y0 y1 y2 y3 y4 y5 y6 : Value} (hne : k ≠ g) : (((((((w.setCell ⟨g, 0, none⟩ y0).setCell ⟨g, 1, none⟩ y1).setCell ⟨g, 2, none⟩ y2).setCell ⟨g, 3, none⟩ y3).setCell ⟨g, 4, none⟩ y4).setCell ⟨g, 5, none⟩ y5).setCell ⟨g, 6, none⟩ y6).heap[k]? = w.heap[k]? := by
  rw [Below.heap_setCell _ _ _ _ ?_, Below.heap_setCell _ _ _ _ ?_, Below.heap_setCell _ _ _ _ ?_, Below.heap_setCell _ _ _ _ ?_, Below.heap_setCell _ _ _ _ ?_, Below.heap_setCell _ _ _ _ ?_, Below.heap_setCell _ _ _ _ ?_] <;> exact fun e => hne (by rw [e])
/-- append of one wait to a slice that is the call's own. -/
theorem list_appJ {ops : Array Oper} {rest : List Oper} {o : Oper} {a : Act} {w : World} {Q : Exit → Act → World → Prop} (hgd : o.guard = none) (s x : Operand)
    (ho : o.op = .call { callee := .builtin .append, args := #[s, x], argTypes := #[42, 42] }) (v : Value) (cs : List Wai) (c : Wai) (base gx cx : Nat) (hs : a.eval s = v) (hx : a.eval x = .slice (some ⟨gx, 0, none⟩) 1 cx) (hv : OwJ w base v cs)
    (hds : ∀ t u, (jrow c)[t]? = some u → w.cell? ⟨gx, t, none⟩ = some u) (hl : cs.length ≤ 4194304) (hb : base ≤ w.heap.size)
    (h : ∀ g cap w', OwJ w' base (.slice (some ⟨g, 0, none⟩) (cs.length + 1) cap) (cs ++ [c]) → w.grownBy w' v.ownBlock → (v.ownBlock = some g ∨ g = w.heap.size) → wpList Try.prog ops Q rest (a.put o.dst (.slice (some ⟨g, 0, none⟩) (cs.length + 1) cap)) w') : wpList Try.prog ops Q (o :: rest) a w := by
  obtain ⟨i0, hi, hz0, hz1, hz2⟩ := info_parts infoJ
  refine wpList_plain hgd fun _ hK => ?_
  exact wp_append_lies w s x 42 ho base 63 i0 _ 7 56 Try.underlying42 hi hz0 hz1 hz2 rfl (by omega) v cs.length (rowJ cs) hs hv ⟨gx, 0, none⟩ 1 cx (rowJ [c]) hx (by rw [rowJ_len]; rfl) (fun j u hj => by rw [Addr.add_lit, Nat.zero_add]; exact hds j u (by simpa [rowJ] using hj)) (rowJ_one [c]) (by omega) (by unfold maxLen; omega) (by omega) hb _ rfl
    (fun g cap w' r1 r2 r3 r4 => hK _ _ (h g cap w' (by unfold OwJ; rw [List.length_append, rowJ_append]; exact r1) r2 r3))
theorem owJ_lit {w : World} {base g : Nat} (h : w.heap[g]? = some (.cells #[] 63)) (hb : base ≤ g) : OwJ w base (.slice (some ⟨g, 0, none⟩) 0 0) [] :=
  ⟨rfl, .inr ⟨g, 0, #[], rfl, hb, h, Nat.le_refl _, Nat.zero_le _, rfl, rfl⟩⟩
theorem j_at {w : World} {g : Nat} {c : Wai} {T : TypeId} (h : w.heap[g]? = some (.cells #[.int .i64 c.a, .int .i64 c.b, .int .i64 c.c, .int .i64 c.d, .int .i64 c.e, .int .i64 c.f, .int .i64 c.g] T)) : ∀ t u, (jrow c)[t]? = some u → w.cell? ⟨g, t, none⟩ = some u := fun t u hj => by
  rw [cell_of_row w g _ _ _ _ h]
  simpa [jrow] using hj
/-- Two slices that the call owns, and that lie apart. -/
def Two (w : World) (base : Nat) (v : Value) (l : List Wai) (u : Value) (m : List Wai) : Prop :=
  OwJ w base v l ∧ OwJ w base u m ∧ ∀ g, v.ownBlock = some g → u.ownBlock ≠ some g
theorem Two.below {w w' : World} {base : Nat} {v u : Value} {l m : List Wai} (h : Two w base v l u m) (hb : Below w.heap.size w w') : Two w' base v l u m := ⟨h.1.below hb, h.2.1.below hb, h.2.2⟩
theorem Two.swap {w : World} {base : Nat} {v u : Value} {l m : List Wai} (h : Two w base v l u m) : Two w base u m v l := ⟨h.2.1, h.1, fun g e e' => h.2.2 g e' e⟩
/-- One more in the first. -/
theorem Two.app {w w' : World} {base : Nat} {v u v' : Value} {l m l' : List Wai} (h : Two w base v l u m) (ho : OwJ w' base v' l') (hG : w.grownBy w' v.ownBlock) (lies : ∀ g, v'.ownBlock = some g → v.ownBlock = some g ∨ g = w.heap.size) : Two w' base v' l' u m := by
  refine ⟨ho, h.2.1.kept hG ?_, fun g e e' => ?_⟩
  · cases hv : v.ownBlock with
    | none => cases hu : u.ownBlock with
      | none => exact .inl rfl
      | some k => exact .inr (by simp)
    | some k => exact .inr (h.2.2 k hv)
  · rcases lies g e with q | q
    · exact h.2.2 g q e'
    · have := (h.2.1.lt g e').2
      omega
end Go.Proofs.Ytalaolfcdaaaoaa.W
