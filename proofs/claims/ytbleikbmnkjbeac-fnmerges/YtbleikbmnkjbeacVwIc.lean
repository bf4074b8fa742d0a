/-
  What slices.Clone, slices.Insert and l8Copy answer of claims.
-/
import Derived.Test.YtbleikbmnkjbeacVwIg
import Derived.Lib.LazyBuf
namespace Go.Proofs.Ytbleikbmnkjbeac.W
open Go.ChangeShapes Go.WideShapes Go.ChangeAt Go.RowKit
open Go.Proofs.Ytbleikbmnkjbeac.M

set_option maxHeartbeats 1000000 in
theorem run_appC (ty : TypeId) (v u : Value) (cs ds : List Clm) (base : Nat) (w : World) (hv : OwC w base v cs) (hu : RdC w u ds) (hl : cs.length + ds.length ≤ 4194304) (hb : base ≤ w.heap.size) :
    ∃ v' w', (Builtin.append_ #[71, 71] ty #[v, u]).run Try.prog w = .ok v' w' ∧ OwC w' base v' (cs ++ ds) ∧ w.grownBy w' v.ownBlock := by
  obtain ⟨i0, hi, hz0, hz1, hz2⟩ := info_parts infoC
  obtain ⟨a, cap, rfl, -, -, hc⟩ := hu.parts
  cases a with
  | some ad =>
    obtain ⟨b, o, spot⟩ := ad
    by_cases hm : ds.length = 0
    · obtain rfl := List.eq_nil_of_length_eq_zero hm
      obtain ⟨v', w', hr, h2, h3, -⟩ := run_append_own (P := Try.prog) w base 71 ty 45 i0 _ 4 32 Try.underlying71 hi hz0 hz1 hz2 rfl (by omega) v cs.length (rowC cs) hv ⟨b, o, spot⟩ 0 cap [] rfl (fun j u h => by simp at h) (fun u h => by simp at h) (by unfold maxLen; simp at hl; omega) (by simp at hl; omega) hb
      refine ⟨v', w', hr, ?_, h3⟩
      rw [List.append_nil] at h2 ⊢
      exact h2
    · obtain ⟨b', o', e, -⟩ := hc 0 (by omega)
      simp only [Option.some.injEq, Addr.mk.injEq] at e
      obtain ⟨rfl, rfl, rfl⟩ := e
      have hrow := rowC_at (w := w) (b := b) (o := o) (cs := ds) fun i hi t x q => by
        obtain ⟨b', o', e, hcc⟩ := hc i hi
        cases e
        exact hcc t x q
      obtain ⟨v', w', hr, h2, h3, -⟩ := run_append_own (P := Try.prog) w base 71 ty 45 i0 _ 4 32 Try.underlying71 hi hz0 hz1 hz2 rfl (by omega) v cs.length (rowC cs) hv ⟨b, o, none⟩ ds.length cap (rowC ds) (by rw [rowC_len]) (fun j u h => by
          rw [Addr.add_lit]
          exact hrow j u h) (rowC_one ds) (by unfold maxLen; omega) (by omega) hb
      refine ⟨v', w', hr, ?_, h3⟩
      unfold OwC
      rw [List.length_append, rowC_append]
      exact h2
  | none =>
    have hm : ds = [] := by
      cases ds with
      | nil => rfl
      | cons x t => obtain ⟨b, o, e, -⟩ := hc 0 (by simp); cases e
    subst hm
    refine ⟨v, w, ?_, by rw [List.append_nil]; exact hv, World.grownBy.refl _ _⟩
    rcases hv.2 with ⟨rfl, h0⟩ | ⟨g, c, cur, rfl, -, -, hn, -⟩
    · simp [Builtin.append_, run_underlying Try.underlying71, sizeOf, typeInfo, hi, Builtin.lenOf, Builtin.firstCells]
    · simp [Builtin.append_, run_underlying Try.underlying71, sizeOf, typeInfo, hi, Builtin.lenOf, Builtin.firstCells, hn, storeCells]
theorem list_appCg {ops : Array Oper} {rest : List Oper} {o : Oper} {a : Act} {w : World} {Q : Exit → Act → World → Prop} (hgd : o.guard = none) (s x : Operand)
    (ho : o.op = .call { callee := .builtin .append, args := #[s, x], argTypes := #[71, 71] }) (v u : Value) (cs ds : List Clm) (base : Nat) (hs : a.eval s = v) (hx : a.eval x = u) (hv : OwC w base v cs) (hu : RdC w u ds) (hl : cs.length + ds.length ≤ 4194304) (hb : base ≤ w.heap.size)
    (h : ∀ v' w', OwC w' base v' (cs ++ ds) → w.grownBy w' v.ownBlock → wpList Try.prog ops Q rest (a.put o.dst v') w') : wpList Try.prog ops Q (o :: rest) a w := by
  refine wpList_plain hgd fun _ hK => ?_
  obtain ⟨v', w', hr, h2, h3⟩ := run_appC o.type v u cs ds base w hv hu hl hb
  unfold Oper.wp execOp
  simp only [ho, resolve, invoke, builtin, Sem.run_bind, Sem.run_pure, Result.andThen_ok, List.map_toArray, List.map_cons, List.map_nil, hs, hx, hr]
  exact hK _ _ (h v' w' h2 h3)
set_option maxRecDepth 100000 in
theorem s8c (v : Value) (cs : List Clm) (w : World) (h : RdC w v cs) (hl : cs.length ≤ 1048576) :
    Calls Try.prog 112 #[v] w fun e w' => ∃ u, e = .returned u ∧ OwC w' w.heap.size u cs ∧ Below w.heap.size w w' := by
  have H := hid h
  obtain ⟨a, cap, rfl, -, -, -⟩ := h.parts
  clear h
  have V0 := heap_alloc_new w (.cells #[] 45)
  have B0 := hid (below_alloc1 w (.cells #[] 45))
  have O0 := hid (owC_lit V0 (Nat.le_refl _))
  have S0 := hid (show w.heap.size ≤ (w.alloc (.cells #[] 45)).heap.size from B0.out.size)
  clear V0
  go_enter Try.func112, Try.ntmps112
  go_wp2_with (at_builtin; refine list_appCg rfl _ _ rfl _ _ [] cs w.heap.size rfl rfl O0.out (H.out.below B0.out) (by simp; omega) S0.out ?_; intro v2 w2 hO hG; rw [List.nil_append] at hO; obtain ⟨pq, cq, rfl, -, -, -⟩ := hO.rd.parts)
  have BB := hid (B0.out.grown hG S0.out (O0.out.row (Nat.le_refl _)))
  have OO := hid hO
  clear hO hG
  go_ret
  exact ⟨_, rfl, OO.out, BB.out⟩
set_option maxRecDepth 100000 in
theorem clC' (v : Value) (cs : List Clm) (w : World) (h : RdC w v cs) (hl : cs.length ≤ 1048576) :
    Calls Try.prog 156 #[v] w fun e w' => ∃ u, e = .returned u ∧ OwC w' w.heap.size u cs ∧ Below w.heap.size w w' := by
  have H := hid h
  obtain ⟨a, cap, rfl, -, -, hcs⟩ := h.parts
  clear h
  have q22 : ∀ (w : World) (a : Option Addr) (n c n' c' : Nat), (binOp .eql 71 (.slice a n c) (.slice none n' c')).run Try.prog w = .ok (.bool a.isNone) w := fun w a n c n' c' => Lib.run_eql_slice_nil w _ _ a n c n' c' Try.underlying71
  rcases a with _ | ad
  · have e0 : cs = [] := by
      cases cs with
      | nil => rfl
      | cons x t => obtain ⟨b, o, e, -⟩ := hcs 0 (by simp); cases e
    subst e0
    clear hcs
    go_enter Try.func156, Try.ntmps156
    go_wp2
    go_ret
    exact ⟨_, rfl, OwC.nil _ _, Below.refl _ _⟩
  · have V0 := heap_alloc_new w (.cells #[] 45)
    have B0 := hid (below_alloc1 w (.cells #[] 45))
    have O0 := hid (owC_lit V0 (Nat.le_refl _))
    have S0 := hid (show w.heap.size ≤ (w.alloc (.cells #[] 45)).heap.size from B0.out.size)
    clear V0 hcs
    go_enter Try.func156, Try.ntmps156
    go_wp2_with (at_builtin; refine list_appCg rfl _ _ rfl _ _ [] cs w.heap.size rfl rfl O0.out (H.out.below B0.out) (by simp; omega) S0.out ?_; intro v2 w2 hO hG; rw [List.nil_append] at hO; obtain ⟨pq, cq, rfl, -, -, -⟩ := hO.rd.parts)
    have BB := hid (B0.out.grown hG S0.out (O0.out.row (Nat.le_refl _)))
    have OO := hid hO
    clear hO hG
    go_ret
    exact ⟨_, rfl, OO.out, BB.out⟩
/-- A claim goes in at place i. -/
theorem insC (v : Value) (cs : List Clm) (c : Clm) (i base vb : Nat) (w : World) (h : OwC w base v cs) (hc : w.heap[vb]? = some (.cells #[.int .i64 c.n, .int .i64 c.i, .int .i64 c.s, .int .i64 c.m] 45)) (hne : v.ownBlock ≠ some vb) (hi : i ≤ cs.length) (hl : cs.length ≤ 4) (hb : base ≤ w.heap.size) :
    Calls Try.prog 157 #[v, .int .i64 (i : Int), .slice (some ⟨vb, 0, none⟩) 1 1] w
      fun e w' => ∃ g cap, e = .returned (.slice (some ⟨g, 0, none⟩) (cs.length + 1) cap) ∧ OwC w' base (.slice (some ⟨g, 0, none⟩) (cs.length + 1) cap) (cs.take i ++ c :: cs.drop i) ∧ w.grownBy w' v.ownBlock := by
  by_cases hin : i = cs.length
  · subst hin
    rw [List.take_of_length_le (Nat.le_refl _), List.drop_of_length_le (Nat.le_refl _)]
    exact insE v cs c base vb w h hc hl hb
  · rcases h.2 with ⟨e, h0⟩ | ⟨g, cap, cur, rfl, hbb, hg, hn, hm, hs, ht⟩
    · omega
    · rcases Nat.lt_or_ge cs.length cap with q | q
      · exact (insR cs c i g cap base vb w h hc (fun e => hne (by rw [e]; rfl)) (by omega) q).mono fun e w' ⟨r1, r2, r3⟩ => ⟨g, cap, r1, r2, r3⟩
      · obtain rfl : cap = cs.length := by omega
        exact insG cs c i g base vb w h hc (by omega) hl hb
end Go.Proofs.Ytbleikbmnkjbeac.W
