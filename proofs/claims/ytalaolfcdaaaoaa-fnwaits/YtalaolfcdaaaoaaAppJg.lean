/-
  append of one slice of waits to another that is the call's own.
-/
import Derived.Test.YtalaolfcdaaaoaaWtA
import Derived.Lib.LazyBuf
namespace Go.Proofs.Ytalaolfcdaaaoaa.W
open Go.ChangeShapes Go.WideShapes Go.ChangeAt Go.RowKit
open Go.Proofs.Ytalaolfcdaaaoaa.M

theorem rowJ_at {w : World} {b o : Nat} {cs : List Wai} (h : ∀ i (hi : i < cs.length) t x, (jrow cs[i])[t]? = some x → w.cell? ⟨b, o + i * 7 + t, none⟩ = some x) : ∀ j u, (rowJ cs)[j]? = some u → w.cell? ⟨b, o + j, none⟩ = some u := by
  intro j u hj
  have hlt : j < cs.length * 7 := by
    rcases Nat.lt_or_ge j (cs.length * 7) with q | q
    · exact q
    · rw [List.getElem?_eq_none (by rw [rowJ_len]; exact q)] at hj; cases hj
  have h1 := rowJ_get cs (j / 7) (by omega) (j % 7) (by omega)
  rw [show j / 7 * 7 + j % 7 = j by omega] at h1
  have := h (j / 7) (by omega) (j % 7) u (by rw [← h1]; exact hj)
  rwa [show o + j / 7 * 7 + j % 7 = o + j by omega] at this
set_option maxHeartbeats 1000000 in
theorem run_appJg (ty : TypeId) (v u : Value) (cs ds : List Wai) (base : Nat) (w : World) (hv : OwJ w base v cs) (hu : RdJ w u ds) (hl : cs.length + ds.length ≤ 4194304) (hb : base ≤ w.heap.size) :
    ∃ v' w', (Builtin.append_ #[42, 42] ty #[v, u]).run Try.prog w = .ok v' w' ∧ OwJ w' base v' (cs ++ ds) ∧ w.grownBy w' v.ownBlock := by
  obtain ⟨i0, hi, hz0, hz1, hz2⟩ := info_parts infoJ
  obtain ⟨a, cap, rfl, -, -, hc⟩ := hu.parts
  cases a with
  | some ad =>
    obtain ⟨b, o, spot⟩ := ad
    by_cases hm : ds.length = 0
    · obtain rfl := List.eq_nil_of_length_eq_zero hm
      obtain ⟨v', w', hr, h2, h3, -⟩ := run_append_own (P := Try.prog) w base 42 ty 63 i0 _ 7 56 Try.underlying42 hi hz0 hz1 hz2 rfl (by omega) v cs.length (rowJ cs) hv ⟨b, o, spot⟩ 0 cap [] rfl (fun j u h => by simp at h) (fun u h => by simp at h) (by unfold maxLen; simp at hl; omega) (by simp at hl; omega) hb
      refine ⟨v', w', hr, ?_, h3⟩
      rw [List.append_nil] at h2 ⊢
      exact h2
    · obtain ⟨b', o', e, -⟩ := hc 0 (by omega)
      simp only [Option.some.injEq, Addr.mk.injEq] at e
      obtain ⟨rfl, rfl, rfl⟩ := e
      have hrow := rowJ_at (w := w) (b := b) (o := o) (cs := ds) fun i hi t x q => by
        obtain ⟨b', o', e, hcc⟩ := hc i hi
        cases e
        exact hcc t x q
      obtain ⟨v', w', hr, h2, h3, -⟩ := run_append_own (P := Try.prog) w base 42 ty 63 i0 _ 7 56 Try.underlying42 hi hz0 hz1 hz2 rfl (by omega) v cs.length (rowJ cs) hv ⟨b, o, none⟩ ds.length cap (rowJ ds) (by rw [rowJ_len]) (fun j u h => by
          rw [Addr.add_lit]
          exact hrow j u h) (rowJ_one ds) (by unfold maxLen; omega) (by omega) hb
      refine ⟨v', w', hr, ?_, h3⟩
      unfold OwJ
      rw [List.length_append, rowJ_append]
      exact h2
  | none =>
    have hm : ds = [] := by
      cases ds with
      | nil => rfl
      | cons x t => obtain ⟨b, o, e, -⟩ := hc 0 (by simp); cases e
    subst hm
    refine ⟨v, w, ?_, by rw [List.append_nil]; exact hv, World.grownBy.refl _ _⟩
    rcases hv.2 with ⟨rfl, h0⟩ | ⟨g, c, cur, rfl, -, -, hn, -⟩
    · simp [Builtin.append_, run_underlying Try.underlying42, sizeOf, typeInfo, hi, Builtin.lenOf, Builtin.firstCells]
    · simp [Builtin.append_, run_underlying Try.underlying42, sizeOf, typeInfo, hi, Builtin.lenOf, Builtin.firstCells, hn, storeCells]
theorem list_appJg {ops : Array Oper} {rest : List Oper} {o : Oper} {a : Act} {w : World} {Q : Exit → Act → World → Prop} (hgd : o.guard = none) (s x : Operand)
    (ho : o.op = .call { callee := .builtin .append, args := #[s, x], argTypes := #[42, 42] }) (v u : Value) (cs ds : List Wai) (base : Nat) (hs : a.eval s = v) (hx : a.eval x = u) (hv : OwJ w base v cs) (hu : RdJ w u ds) (hl : cs.length + ds.length ≤ 4194304) (hb : base ≤ w.heap.size)
    (h : ∀ v' w', OwJ w' base v' (cs ++ ds) → w.grownBy w' v.ownBlock → wpList Try.prog ops Q rest (a.put o.dst v') w') : wpList Try.prog ops Q (o :: rest) a w := by
  refine wpList_plain hgd fun _ hK => ?_
  obtain ⟨v', w', hr, h2, h3⟩ := run_appJg o.type v u cs ds base w hv hu hl hb
  unfold Oper.wp execOp
  simp only [ho, resolve, invoke, builtin, Sem.run_bind, Sem.run_pure, Result.andThen_ok, List.map_toArray, List.map_cons, List.map_nil, hs, hx, hr]
  exact hK _ _ (h v' w' h2 h3)
end Go.Proofs.Ytalaolfcdaaaoaa.W
