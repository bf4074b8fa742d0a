/-
  append of one slice of bytes to another that is the call's own.
-/
import Derived.Test.YtbfdbicddmffnabBase
import Derived.Test.YtbfdbicddmffnabSlX
import Derived.Laws.AppendOwn
namespace Go.Proofs.Ytbfdbicddmffnab.W
open Go.ChangeShapes Go.WideShapes Go.ChangeAt Go.RowKit
open Go.Proofs.Ytbfdbicddmffnab.M

theorem run_app (ty : TypeId) (v u : Value) (l m : List Nat) (base : Nat) (w : World) (hv : Own w base v l) (hu : Rd w u m) (hl : l.length + m.length ≤ 4194304) (hb : base ≤ w.heap.size) :
    ∃ v' w', (Builtin.append_ #[22, 22] ty #[v, u]).run Try.prog w = .ok v' w' ∧ Own w' base v' (l ++ m) ∧ w.grownBy w' v.ownBlock := by
  obtain ⟨i0, hi, hz0, hz1, hz2⟩ := info_parts info8
  obtain ⟨a, cap, rfl, -, -, hc⟩ := hu.parts
  cases a with
  | some ad =>
    obtain ⟨b, o, spot⟩ := ad
    by_cases hm : m.length = 0
    · obtain rfl := List.eq_nil_of_length_eq_zero hm
      obtain ⟨v', w', hr, h2, h3, -⟩ := run_append_own (P := Try.prog) w base 22 ty 5 i0 (.int .u8 0) 1 1 Try.underlying22 hi hz0 hz1 hz2 rfl (by omega) v l.length (l.map bv) hv ⟨b, o, spot⟩ 0 cap [] rfl (fun j u h => by simp at h) (fun u h => by simp at h) (by unfold maxLen; simp at hl; omega) (by simp at hl; omega) hb
      refine ⟨v', w', hr, ?_, h3⟩
      rw [List.append_nil] at h2 ⊢
      exact h2
    · obtain ⟨b', o', e, -⟩ := hc 0 (by omega)
      simp only [Option.some.injEq, Addr.mk.injEq] at e
      obtain ⟨rfl, rfl, rfl⟩ := e
      obtain ⟨v', w', hr, h2, h3, -⟩ := run_append_own (P := Try.prog) w base 22 ty 5 i0 (.int .u8 0) 1 1 Try.underlying22 hi hz0 hz1 hz2 rfl (by omega) v l.length (l.map bv) hv ⟨b, o, none⟩ m.length cap (m.map bv) (by simp) (fun j u h => by
          have hj : j < m.length := by
            rcases Nat.lt_or_ge j m.length with q | q
            · exact q
            · rw [List.getElem?_eq_none (by simpa using q)] at h; cases h
          rw [List.getElem?_map, List.getElem?_eq_getElem hj] at h
          cases h
          obtain ⟨b', o', e, hcc⟩ := hc j hj
          cases e
          rw [Addr.add_lit]
          exact hcc) (fun u h => by obtain ⟨x, _, rfl⟩ := List.mem_map.1 h; rfl) (by unfold maxLen; omega) (by omega) hb
      refine ⟨v', w', hr, ?_, h3⟩
      unfold Own
      rw [List.length_append, List.map_append]
      exact h2
  | none =>
    have hm : m = [] := by
      cases m with
      | nil => rfl
      | cons x t => obtain ⟨b, o, e, -⟩ := hc 0 (by simp); cases e
    subst hm
    refine ⟨v, w, ?_, by rw [List.append_nil]; exact hv, World.grownBy.refl _ _⟩
    rcases hv.2 with ⟨rfl, h0⟩ | ⟨g, c, cur, rfl, -, -, hn, -⟩
    · simp [Builtin.append_, run_underlying Try.underlying22, sizeOf, typeInfo, hi, Builtin.lenOf, Builtin.firstCells]
    · simp [Builtin.append_, run_underlying Try.underlying22, sizeOf, typeInfo, hi, Builtin.lenOf, Builtin.firstCells, hn, storeCells]
theorem wp_app {o : Oper} {a : Act} {w : World} {K : Act → World → Prop} {Q : Exit → Act → World → Prop} (s x : Operand)
    (ho : o.op = .call { callee := .builtin .append, args := #[s, x], argTypes := #[22, 22] }) (v u : Value) (l m : List Nat) (base : Nat) (hs : a.eval s = v) (hx : a.eval x = u) (hv : Own w base v l) (hu : Rd w u m) (hl : l.length + m.length ≤ 4194304) (hb : base ≤ w.heap.size)
    (h : ∀ v' w', Own w' base v' (l ++ m) → w.grownBy w' v.ownBlock → K (a.put o.dst v') w') : o.wp Try.prog a w K Q := by
  obtain ⟨v', w', hr, h2, h3⟩ := run_app o.type v u l m base w hv hu hl hb
  unfold Oper.wp execOp
  simp only [ho, resolve, invoke, builtin, Sem.run_bind, Sem.run_pure, Result.andThen_ok, List.map_toArray, List.map_cons, List.map_nil, hs, hx, hr]
  exact h v' w' h2 h3
theorem list_app {ops : Array Oper} {rest : List Oper} {o : Oper} {a : Act} {w : World} {Q : Exit → Act → World → Prop} (hgd : o.guard = none) (s x : Operand)
    (ho : o.op = .call { callee := .builtin .append, args := #[s, x], argTypes := #[22, 22] }) (v u : Value) (l m : List Nat) (base : Nat) (hs : a.eval s = v) (hx : a.eval x = u) (hv : Own w base v l) (hu : Rd w u m) (hl : l.length + m.length ≤ 4194304) (hb : base ≤ w.heap.size)
    (h : ∀ v' w', Own w' base v' (l ++ m) → w.grownBy w' v.ownBlock → wpList Try.prog ops Q rest (a.put o.dst v') w') : wpList Try.prog ops Q (o :: rest) a w :=
  wpList_plain hgd fun _ hK => wp_app s x ho v u l m base hs hx hv hu hl hb fun v' w' h2 h3 => hK _ _ (h v' w' h2 h3)
theorem step_app {ops : Array Oper} {o : Oper} {a : Act} {w : World} {K : Act → World → Prop} {Q : Exit → Act → World → Prop} {E : Prop} (hgd : o.guard = none) (s x : Operand)
    (ho : o.op = .call { callee := .builtin .append, args := #[s, x], argTypes := #[22, 22] }) (v u : Value) (l m : List Nat) (base : Nat) (hs : a.eval s = v) (hx : a.eval x = u) (hv : Own w base v l) (hu : Rd w u m) (hl : l.length + m.length ≤ 4194304) (hb : base ≤ w.heap.size)
    (h : ∀ v' w', Own w' base v' (l ++ m) → w.grownBy w' v.ownBlock → K (a.put o.dst v') w') : if Region.wanted o (yielded ops a.tmps) = true then Oper.wp Try.prog o a w K Q else E := by
  have hw : Region.wanted o (yielded ops a.tmps) = true := by simp [Region.wanted, hgd]
  rw [if_pos hw]
  exact wp_app s x ho v u l m base hs hx hv hu hl hb h
end Go.Proofs.Ytbfdbicddmffnab.W
