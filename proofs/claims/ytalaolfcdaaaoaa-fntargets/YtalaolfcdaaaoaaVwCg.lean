/-
  append of one slice of claims to another that is the call's own.
-/
import Derived.Test.YtalaolfcdaaaoaaVwCp
import Derived.Lib.LazyBuf
namespace Go.Proofs.Ytalaolfcdaaaoaa.W
open Go.ChangeShapes Go.WideShapes Go.ChangeAt Go.RowKit
open Go.Proofs.Ytalaolfcdaaaoaa.M

set_option maxHeartbeats 1000000 in
theorem run_appC (ty : TypeId) (v u : Value) (cs ds : List Clm) (base : Nat) (w : World) (hv : OwC w base v cs) (hu : RdC w u ds) (hl : cs.length + ds.length ≤ 4194304) (hb : base ≤ w.heap.size) :
    ∃ v' w', (Builtin.append_ #[24, 24] ty #[v, u]).run Try.prog w = .ok v' w' ∧ OwC w' base v' (cs ++ ds) ∧ w.grownBy w' v.ownBlock := by
  obtain ⟨i0, hi, hz0, hz1, hz2⟩ := info_parts infoC
  obtain ⟨a, cap, rfl, -, -, hc⟩ := hu.parts
  cases a with
  | some ad =>
    obtain ⟨b, o, spot⟩ := ad
    by_cases hm : ds.length = 0
    · obtain rfl := List.eq_nil_of_length_eq_zero hm
      obtain ⟨v', w', hr, h2, h3, -⟩ := run_append_own (P := Try.prog) w base 24 ty 38 i0 _ 4 32 Try.underlying24 hi hz0 hz1 hz2 rfl (by omega) v cs.length (rowC cs) hv ⟨b, o, spot⟩ 0 cap [] rfl (fun j u h => by simp at h) (fun u h => by simp at h) (by unfold maxLen; simp at hl; omega) (by simp at hl; omega) hb
      refine ⟨v', w', hr, ?_, h3⟩
      rw [List.append_nil] at h2 ⊢
      exact h2
    · obtain ⟨b', o', e, -⟩ := hc 0 (by omega)
      simp only [Option.some.injEq, Addr.mk.injEq] at e
      obtain ⟨rfl, rfl, rfl⟩ := e
      have hrow := rowC_at (w := w) (b := b) (o := o) (cs := ds) fun i hi t x q => by
        obtain ⟨b', o', e, hcc⟩ := hc i hi
        cases e
        exact hcc t x q
      obtain ⟨v', w', hr, h2, h3, -⟩ := run_append_own (P := Try.prog) w base 24 ty 38 i0 _ 4 32 Try.underlying24 hi hz0 hz1 hz2 rfl (by omega) v cs.length (rowC cs) hv ⟨b, o, none⟩ ds.length cap (rowC ds) (by rw [rowC_len]) (fun j u h => by
          rw [Addr.add_lit]
          exact hrow j u h) (rowC_one ds) (by unfold maxLen; omega) (by omega) hb
      refine ⟨v', w', hr, ?_, h3⟩
      unfold OwC
      rw [List.length_append, rowC_append]
      exact h2
  | none =>
    have hm : ds = [] := by
      cases ds with
      | nil => rfl
      | cons x t => obtain ⟨b, o, e, -⟩ := hc 0 (by simp); cases e
    subst hm
    refine ⟨v, w, ?_, by rw [List.append_nil]; exact hv, World.grownBy.refl _ _⟩
    rcases hv.2 with ⟨rfl, h0⟩ | ⟨g, c, cur, rfl, -, -, hn, -⟩
    · simp [Builtin.append_, run_underlying Try.underlying24, sizeOf, typeInfo, hi, Builtin.lenOf, Builtin.firstCells]
    · simp [Builtin.append_, run_underlying Try.underlying24, sizeOf, typeInfo, hi, Builtin.lenOf, Builtin.firstCells, hn, storeCells]
theorem list_appCg {ops : Array Oper} {rest : List Oper} {o : Oper} {a : Act} {w : World} {Q : Exit → Act → World → Prop} (hgd : o.guard = none) (s x : Operand)
    (ho : o.op = .call { callee := .builtin .append, args := #[s, x], argTypes := #[24, 24] }) (v u : Value) (cs ds : List Clm) (base : Nat) (hs : a.eval s = v) (hx : a.eval x = u) (hv : OwC w base v cs) (hu : RdC w u ds) (hl : cs.length + ds.length ≤ 4194304) (hb : base ≤ w.heap.size)
    (h : ∀ v' w', OwC w' base v' (cs ++ ds) → w.grownBy w' v.ownBlock → wpList Try.prog ops Q rest (a.put o.dst v') w') : wpList Try.prog ops Q (o :: rest) a w := by
  refine wpList_plain hgd fun _ hK => ?_
  obtain ⟨v', w', hr, h2, h3⟩ := run_appC o.type v u cs ds base w hv hu hl hb
  unfold Oper.wp execOp
  simp only [ho, resolve, invoke, builtin, Sem.run_bind, Sem.run_pure, Result.andThen_ok, List.map_toArray, List.map_cons, List.map_nil, hs, hx, hr]
  exact hK _ _ (h v' w' h2 h3)
end Go.Proofs.Ytalaolfcdaaaoaa.W
