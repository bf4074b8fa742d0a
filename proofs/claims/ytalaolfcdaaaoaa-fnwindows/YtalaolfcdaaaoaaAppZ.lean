/-
  append of one slice of numbers to another that is the call's own.
-/
import Derived.WalkSpells
import Derived.Test.YtalaolfcdaaaoaaSlZI
import Derived.Laws.AppendOwn
import Derived.Deep.AppendLies
namespace Go.Proofs.Ytalaolfcdaaaoaa.W
open Go.ChangeShapes Go.WideShapes Go.ChangeAt Go.RowKit
open Go.Proofs.Ytalaolfcdaaaoaa.M

theorem rdZ_one (w : World) (n : Int) (T : TypeId) : RdZ (w.alloc (.cells #[.int .i64 n] T)) (.slice (some ⟨w.heap.size, 0, none⟩) 1 1) [n] := by
  refine ⟨_, 1, rfl, Nat.le_refl _, by unfold maxLen; omega, fun i hi => ⟨w.heap.size, 0, rfl, ?_⟩⟩
  obtain rfl : i = 0 := by simpa using hi
  rw [cell_of_row _ _ _ _ _ _ (heap_alloc_new w _)]
  rfl
theorem run_appZ (ty : TypeId) (v u : Value) (l m : List Int) (base : Nat) (w : World) (hv : OwZ w base v l) (hu : RdZ w u m) (hl : l.length + m.length ≤ 4194304) (hb : base ≤ w.heap.size) :
    ∃ v' w', (Builtin.append_ #[32, 32] ty #[v, u]).run Try.prog w = .ok v' w' ∧ OwZ w' base v' (l ++ m) ∧ w.grownBy w' v.ownBlock := by
  obtain ⟨i0, hi, hz0, hz1, hz2⟩ := info_parts info64
  obtain ⟨a, cap, rfl, -, -, hc⟩ := hu.parts
  cases a with
  | some ad =>
    obtain ⟨b, o, spot⟩ := ad
    by_cases hm : m.length = 0
    · obtain rfl := List.eq_nil_of_length_eq_zero hm
      obtain ⟨v', w', hr, h2, h3, -⟩ := run_append_own (P := Try.prog) w base 32 ty 2 i0 (.int .i64 0) 1 8 Try.underlying32 hi hz0 hz1 hz2 rfl (by omega) v l.length (l.map zv) hv ⟨b, o, spot⟩ 0 cap [] rfl (fun j u h => by simp at h) (fun u h => by simp at h) (by unfold maxLen; simp at hl; omega) (by simp at hl; omega) hb
      refine ⟨v', w', hr, ?_, h3⟩
      rw [List.append_nil] at h2 ⊢
      exact h2
    · obtain ⟨b', o', e, -⟩ := hc 0 (by omega)
      simp only [Option.some.injEq, Addr.mk.injEq] at e
      obtain ⟨rfl, rfl, rfl⟩ := e
      obtain ⟨v', w', hr, h2, h3, -⟩ := run_append_own (P := Try.prog) w base 32 ty 2 i0 (.int .i64 0) 1 8 Try.underlying32 hi hz0 hz1 hz2 rfl (by omega) v l.length (l.map zv) hv ⟨b, o, none⟩ m.length cap (m.map zv) (by simp) (fun j u h => by
          have hj : j < m.length := by
            rcases Nat.lt_or_ge j m.length with q | q
            · exact q
            · rw [List.getElem?_eq_none (by simpa using q)] at h; cases h
          rw [List.getElem?_map, List.getElem?_eq_getElem hj] at h
          cases h
          obtain ⟨b', o', e, hcc⟩ := hc j hj
          cases e
          rw [Addr.add_lit]
          exact hcc) (fun u h => by obtain ⟨x, _, rfl⟩ := List.mem_map.1 h; rfl) (by unfold maxLen; omega) (by omega) hb
      refine ⟨v', w', hr, ?_, h3⟩
      unfold OwZ
      rw [List.length_append, List.map_append]
      exact h2
  | none =>
    have hm : m = [] := by
      cases m with
      | nil => rfl
      | cons x t => obtain ⟨b, o, e, -⟩ := hc 0 (by simp); cases e
    subst hm
    refine ⟨v, w, ?_, by rw [List.append_nil]; exact hv, World.grownBy.refl _ _⟩
    rcases hv.2 with ⟨rfl, h0⟩ | ⟨g, c, cur, rfl, -, -, hn, -⟩
    · simp [Builtin.append_, run_underlying Try.underlying32, sizeOf, typeInfo, hi, Builtin.lenOf, Builtin.firstCells]
    · simp [Builtin.append_, run_underlying Try.underlying32, sizeOf, typeInfo, hi, Builtin.lenOf, Builtin.firstCells, hn, storeCells]
theorem wp_appZ {o : Oper} {a : Act} {w : World} {K : Act → World → Prop} {Q : Exit → Act → World → Prop} (s x : Operand)
    (ho : o.op = .call { callee := .builtin .append, args := #[s, x], argTypes := #[32, 32] }) (v u : Value) (l m : List Int) (base : Nat) (hs : a.eval s = v) (hx : a.eval x = u) (hv : OwZ w base v l) (hu : RdZ w u m) (hl : l.length + m.length ≤ 4194304) (hb : base ≤ w.heap.size)
    (h : ∀ v' w', OwZ w' base v' (l ++ m) → w.grownBy w' v.ownBlock → K (a.put o.dst v') w') : o.wp Try.prog a w K Q := by
  obtain ⟨v', w', hr, h2, h3⟩ := run_appZ o.type v u l m base w hv hu hl hb
  unfold Oper.wp execOp
  simp only [ho, resolve, invoke, builtin, Sem.run_bind, Sem.run_pure, Result.andThen_ok, List.map_toArray, List.map_cons, List.map_nil, hs, hx, hr]
  exact h v' w' h2 h3
theorem list_appZ {ops : Array Oper} {rest : List Oper} {o : Oper} {a : Act} {w : World} {Q : Exit → Act → World → Prop} (hgd : o.guard = none) (s x : Operand)
    (ho : o.op = .call { callee := .builtin .append, args := #[s, x], argTypes := #[32, 32] }) (v u : Value) (l m : List Int) (base : Nat) (hs : a.eval s = v) (hx : a.eval x = u) (hv : OwZ w base v l) (hu : RdZ w u m) (hl : l.length + m.length ≤ 4194304) (hb : base ≤ w.heap.size)
    (h : ∀ v' w', OwZ w' base v' (l ++ m) → w.grownBy w' v.ownBlock → wpList Try.prog ops Q rest (a.put o.dst v') w') : wpList Try.prog ops Q (o :: rest) a w :=
  wpList_plain hgd fun _ hK => wp_appZ s x ho v u l m base hs hx hv hu hl hb fun v' w' h2 h3 => hK _ _ (h v' w' h2 h3)
theorem step_appZ {ops : Array Oper} {o : Oper} {a : Act} {w : World} {K : Act → World → Prop} {Q : Exit → Act → World → Prop} {E : Prop} (hgd : o.guard = none) (s x : Operand)
    (ho : o.op = .call { callee := .builtin .append, args := #[s, x], argTypes := #[32, 32] }) (v u : Value) (l m : List Int) (base : Nat) (hs : a.eval s = v) (hx : a.eval x = u) (hv : OwZ w base v l) (hu : RdZ w u m) (hl : l.length + m.length ≤ 4194304) (hb : base ≤ w.heap.size)
    (h : ∀ v' w', OwZ w' base v' (l ++ m) → w.grownBy w' v.ownBlock → K (a.put o.dst v') w') : if Region.wanted o (yielded ops a.tmps) = true then Oper.wp Try.prog o a w K Q else E := by
  have hw : Region.wanted o (yielded ops a.tmps) = true := by simp [Region.wanted, hgd]
  rw [if_pos hw]
  exact wp_appZ s x ho v u l m base hs hx hv hu hl hb h
/-- One number more, and where the row lies then. -/
theorem list_appZl {ops : Array Oper} {rest : List Oper} {o : Oper} {a : Act} {w : World} {Q : Exit → Act → World → Prop} (hgd : o.guard = none) (s x : Operand)
    (ho : o.op = .call { callee := .builtin .append, args := #[s, x], argTypes := #[32, 32] }) (v : Value) (l : List Int) (n : Int) (base gx cx : Nat) (hs : a.eval s = v) (hx : a.eval x = .slice (some ⟨gx, 0, none⟩) 1 cx) (hv : OwZ w base v l) (c0 : w.cell? ⟨gx, 0, none⟩ = some (.int .i64 n)) (hl : l.length ≤ 4194304) (hb : base ≤ w.heap.size)
    (h : ∀ g cap w', OwZ w' base (.slice (some ⟨g, 0, none⟩) (l.length + 1) cap) (l ++ [n]) → w.grownBy w' v.ownBlock → (v.ownBlock = some g ∨ g = w.heap.size) → wpList Try.prog ops Q rest (a.put o.dst (.slice (some ⟨g, 0, none⟩) (l.length + 1) cap)) w') : wpList Try.prog ops Q (o :: rest) a w := by
  obtain ⟨i0, hi, hz0, hz1, hz2⟩ := info_parts info64
  refine wpList_plain hgd fun _ hK => ?_
  exact wp_append_lies w s x 32 ho base 2 i0 _ 1 8 Try.underlying32 hi hz0 hz1 hz2 rfl (by omega) v l.length (l.map zv) hs hv ⟨gx, 0, none⟩ 1 cx [.int .i64 n] hx rfl (fun j x hj => by
    match j, hj with
    | 0, hj => cases hj; exact c0
    | j + 1, hj => simp at hj) (fun x hx => by
    obtain rfl := List.mem_singleton.1 hx; rfl) (by omega) (by unfold maxLen; omega) (by omega) hb _ rfl
    (fun g cap w' r1 r2 r3 r4 => hK _ _ (h g cap w' (by unfold OwZ; rw [List.length_append, List.map_append]; exact r1) r2 r3))
end Go.Proofs.Ytalaolfcdaaaoaa.W
