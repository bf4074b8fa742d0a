/-
  copy and append of slices of claims, as laws for the walk; rows into which a claim is put.
-/
import Derived.Test.YtalaolfcdaaaoaaVwD
import Derived.Laws.CopyOwn
import Derived.Laws.AppendOwn
import Derived.Deep.AppendLies
import Derived.Lib.AppendZerosOnto
import Derived.Lib.Overlaps
namespace Go.Proofs.Ytalaolfcdaaaoaa.W
open Go.ChangeShapes Go.WideShapes Go.ChangeAt Go.RowKit
open Go.Proofs.Ytalaolfcdaaaoaa.M

theorem splice_two {α : Type} (L C X : List α) (p : Nat) (h : p + C.length + X.length ≤ L.length) :
    splice (splice L (p + C.length) X) p C = L.take p ++ (C ++ (X ++ L.drop (p + C.length + X.length))) := by
  have e1 : (splice L (p + C.length) X).take p = L.take p := by
    unfold splice
    rw [List.take_append_of_le_length (by simp; omega), List.take_take, Nat.min_eq_left (by omega)]
  have e2 : (splice L (p + C.length) X).drop (p + C.length) = X ++ L.drop (p + C.length + X.length) := by
    unfold splice
    have : (L.take (p + C.length)).length = p + C.length := by simp; omega
    rw [List.drop_append, this, List.drop_eq_nil_of_le (by omega), Nat.sub_self, List.drop_zero, List.nil_append]
  conv => lhs; unfold splice
  show (splice L (p + C.length) X).take p ++ (C ++ (splice L (p + C.length) X).drop (p + C.length)) = _
  rw [e1, e2]
theorem splice_two' {α : Type} (L C X : List α) (p : Nat) (h : p + C.length + X.length ≤ L.length) :
    splice (splice L p C) (p + C.length) X = L.take p ++ (C ++ (X ++ L.drop (p + C.length + X.length))) := by
  have hp : (L.take p).length = p := by simp; omega
  have e1 : (splice L p C).take (p + C.length) = L.take p ++ C := by
    unfold splice
    rw [← List.append_assoc, List.take_append_of_le_length (by simp; omega), List.take_of_length_le (by simp; omega)]
  have e2 : (splice L p C).drop (p + C.length + X.length) = L.drop (p + C.length + X.length) := by
    unfold splice
    rw [← List.append_assoc, List.drop_append, List.drop_eq_nil_of_le (by simp; omega), List.nil_append, List.drop_drop]
    congr 1
    simp
    omega
  conv => lhs; unfold splice
  show (splice L p C).take (p + C.length) ++ (X ++ (splice L p C).drop (p + C.length + X.length)) = _
  rw [e1, e2, List.append_assoc]
theorem row_put {L : List Value} {cs : List Clm} {c : Clm} {i : Nat} (hi : i ≤ cs.length) (hL : L.take (i * 4) = rowC (cs.take i)) (R : List Value) :
    (L.take (i * 4) ++ (crow c ++ (rowC (cs.drop i) ++ R))).take ((cs.length + 1) * 4) = rowC (cs.take i ++ c :: cs.drop i) := by
  rw [hL, rowC_append, rowC, ← List.append_assoc (crow c), ← List.append_assoc, List.take_append_of_le_length, List.take_of_length_le]
  · simp only [List.length_append, rowC_len, crow_len, List.length_take, List.length_drop]; omega
  · simp only [List.length_append, rowC_len, crow_len, List.length_take, List.length_drop]; omega
theorem run_cp4 (ty : TypeId) (w : World) (g o dLen dCap : Nat) (a : Addr) (sLen sCap : Nat) (cur : Array Value) (t : TypeId) (vs : List Value)
    (hg : w.heap[g]? = some (.cells cur t (0, 0))) (hn : vs.length = Nat.min sLen dLen * 4)
    (hsrc : ∀ j v, vs[j]? = some v → w.cell? (a.add j) = some v) (hfit : o + vs.length ≤ cur.size) (h1 : ∀ v ∈ vs, v.oneCell' = true) :
    (Builtin.copy_ #[24, 24] ty #[.slice (some ⟨g, o, none⟩) dLen dCap, .slice (some a) sLen sCap]).run Try.prog w =
      .ok (goInt (Nat.min sLen dLen)) (w.setRow g (cur.toList.take o ++ vs ++ cur.toList.drop (o + vs.length)).toArray) := by
  obtain ⟨i0, hi, hz0, hz1, hz2⟩ := info_parts infoC
  have hl := run_loadCells_list (P := Try.prog) w a vs hsrc
  have hst := run_storeCells_at Try.prog g o t vs 0 cur w hg (by simpa using hfit) h1
  simp [Builtin.copy_, run_underlying Try.underlying24, Builtin.lenOf, Builtin.firstCells, sizeOf, typeInfo, hi, hz1, ← hn, hl, hst]
theorem setRow_grown (w : World) (g : Nat) (L : Array Value) : w.grownBy (w.setRow g L) (some g) :=
  ⟨rfl, rfl, rfl, by simp [World.setRow], fun k hk hne => setRow_other w g k L (fun e => hne (by rw [e]))⟩
theorem list_cp4 {w : World} {ops : Array Oper} {rest : List Oper} {o : Oper} {a : Act} {Q : Exit → Act → World → Prop} (hgd : o.guard = none) (d s : Operand)
    (ho : o.op = .call { callee := .builtin .copy, args := #[d, s], argTypes := #[24, 24] }) (g off dLen dCap : Nat) (ad : Addr) (sLen sCap : Nat) (hd : a.eval d = .slice (some ⟨g, off, none⟩) dLen dCap) (hs : a.eval s = .slice (some ad) sLen sCap)
    (cur : List Value) (t : TypeId) (hg : w.heap[g]? = some (.cells cur.toArray t (0, 0))) (vs : List Value) (hn : vs.length = Nat.min sLen dLen * 4)
    (hsrc : ∀ j v, vs[j]? = some v → w.cell? (ad.add j) = some v) (hfit : off + vs.length ≤ cur.length) (h1 : ∀ v ∈ vs, v.oneCell' = true)
    (h : ∀ w', Hid (w'.heap[g]? = some (.cells (splice cur off vs).toArray t (0, 0))) → w.grownBy w' (some g) → wpList Try.prog ops Q rest (a.put o.dst (goInt (Nat.min sLen dLen))) w') :
    wpList Try.prog ops Q (o :: rest) a w := by
  refine wpList_plain hgd fun K hK => ?_
  have hrun := run_cp4 o.type w g off dLen dCap ad sLen sCap cur.toArray t vs hg hn hsrc (by simpa using hfit) h1
  unfold Oper.wp
  simp only [execOp, ho, resolve, invoke, builtin, Sem.run_bind, Sem.run_pure, Result.andThen_ok, List.map_toArray, List.map_cons, List.map_nil, hd, hs, hrun]
  refine hK _ _ (h _ ?_ (setRow_grown _ _ _))
  exact hid (by simpa [splice] using setRow_heap w g cur.toArray _ t _ hg)
theorem step_cp4 {w : World} {ops : Array Oper} {o : Oper} {a : Act} {K : Act → World → Prop} {Q : Exit → Act → World → Prop} {E : Prop} (hgd : o.guard = none) (d s : Operand)
    (ho : o.op = .call { callee := .builtin .copy, args := #[d, s], argTypes := #[24, 24] }) (g off dLen dCap : Nat) (ad : Addr) (sLen sCap : Nat) (hd : a.eval d = .slice (some ⟨g, off, none⟩) dLen dCap) (hs : a.eval s = .slice (some ad) sLen sCap)
    (cur : List Value) (t : TypeId) (hg : w.heap[g]? = some (.cells cur.toArray t (0, 0))) (vs : List Value) (hn : vs.length = Nat.min sLen dLen * 4)
    (hsrc : ∀ j v, vs[j]? = some v → w.cell? (ad.add j) = some v) (hfit : off + vs.length ≤ cur.length) (h1 : ∀ v ∈ vs, v.oneCell' = true)
    (h : ∀ w', Hid (w'.heap[g]? = some (.cells (splice cur off vs).toArray t (0, 0))) → w.grownBy w' (some g) → K (a.put o.dst (goInt (Nat.min sLen dLen))) w') :
    if Region.wanted o (yielded ops a.tmps) = true then Oper.wp Try.prog o a w K Q else E := by
  have hw : Region.wanted o (yielded ops a.tmps) = true := by simp [Region.wanted, hgd]
  rw [if_pos hw]
  have hrun := run_cp4 o.type w g off dLen dCap ad sLen sCap cur.toArray t vs hg hn hsrc (by simpa using hfit) h1
  unfold Oper.wp
  simp only [execOp, ho, resolve, invoke, builtin, Sem.run_bind, Sem.run_pure, Result.andThen_ok, List.map_toArray, List.map_cons, List.map_nil, hd, hs, hrun]
  refine h _ ?_ (setRow_grown _ _ _)
  exact hid (by simpa [splice] using setRow_heap w g cur.toArray _ t _ hg)
/-- append of claims that lie somewhere to a slice that is the call's own. -/
theorem list_appC {ops : Array Oper} {rest : List Oper} {o : Oper} {a : Act} {w : World} {Q : Exit → Act → World → Prop} (hgd : o.guard = none) (s x : Operand)
    (ho : o.op = .call { callee := .builtin .append, args := #[s, x], argTypes := #[24, 24] }) (v : Value) (cs ds : List Clm) (base gx ox cx : Nat) (hs : a.eval s = v) (hx : a.eval x = .slice (some ⟨gx, ox, none⟩) ds.length cx) (hv : OwC w base v cs)
    (hds : ∀ j u, (rowC ds)[j]? = some u → w.cell? ⟨gx, ox + j, none⟩ = some u) (hd0 : 0 < ds.length) (hl : cs.length + ds.length ≤ 4194304) (hb : base ≤ w.heap.size)
    (h : ∀ g cap w', OwC w' base (.slice (some ⟨g, 0, none⟩) (cs.length + ds.length) cap) (cs ++ ds) → w.grownBy w' v.ownBlock → wpList Try.prog ops Q rest (a.put o.dst (.slice (some ⟨g, 0, none⟩) (cs.length + ds.length) cap)) w') : wpList Try.prog ops Q (o :: rest) a w := by
  obtain ⟨i0, hi, hz0, hz1, hz2⟩ := info_parts infoC
  refine wpList_plain hgd fun _ hK => ?_
  exact wp_append_lies w s x 24 ho base 38 i0 _ 4 32 Try.underlying24 hi hz0 hz1 hz2 rfl (by omega) v cs.length (rowC cs) hs hv ⟨gx, ox, none⟩ ds.length cx (rowC ds) hx (by rw [rowC_len]) (fun j u hj => by rw [Addr.add_lit]; exact hds j u hj) (rowC_one ds) hd0 (by unfold maxLen; omega) (by omega) hb _ rfl
    (fun g cap w' r1 r2 r3 r4 => hK _ _ (h g cap w' (by unfold OwC; rw [List.length_append, rowC_append]; exact r1) r2))
theorem rowC_at {w : World} {b o : Nat} {cs : List Clm} (h : ∀ i (hi : i < cs.length) t x, (crow cs[i])[t]? = some x → w.cell? ⟨b, o + i * 4 + t, none⟩ = some x) : ∀ j u, (rowC cs)[j]? = some u → w.cell? ⟨b, o + j, none⟩ = some u := by
  intro j u hj
  have hlt : j < cs.length * 4 := by
    rcases Nat.lt_or_ge j (cs.length * 4) with q | q
    · exact q
    · rw [List.getElem?_eq_none (by rw [rowC_len]; exact q)] at hj; cases hj
  have h1 := rowC_get cs (j / 4) (by omega) (j % 4) (by omega)
  rw [show j / 4 * 4 + j % 4 = j by omega] at h1
  have := h (j / 4) (by omega) (j % 4) u (by rw [← h1]; exact hj)
  rwa [show o + j / 4 * 4 + j % 4 = o + j by omega] at this
/-- The claims that v reads, as one row of cells. -/
theorem RdC.row {w : World} {v : Value} {cs : List Clm} (h : RdC w v cs) (h0 : 0 < cs.length) : ∃ b o cap, v = .slice (some ⟨b, o, none⟩) cs.length cap ∧ ∀ j u, (rowC cs)[j]? = some u → w.cell? ⟨b, o + j, none⟩ = some u := by
  obtain ⟨a, cap, rfl, -, -, hcs⟩ := h.parts
  obtain ⟨b, o, rfl, -⟩ := hcs 0 h0
  refine ⟨b, o, cap, rfl, rowC_at fun i hi t x q => ?_⟩
  obtain ⟨b', o', e, hc⟩ := hcs i hi
  cases e
  exact hc t x q
theorem owC_lit {w : World} {base g : Nat} (h : w.heap[g]? = some (.cells #[] 38)) (hb : base ≤ g) : OwC w base (.slice (some ⟨g, 0, none⟩) 0 0) [] :=
  ⟨rfl, .inr ⟨g, 0, #[], rfl, hb, h, Nat.le_refl _, Nat.zero_le _, rfl, rfl⟩⟩
theorem one_row {w : World} {g : Nat} {c : Clm} {T : TypeId} (h : w.heap[g]? = some (.cells #[.int .i64 c.n, .int .i64 c.i, .int .i64 c.s, .int .i64 c.m] T)) : ∀ j u, (rowC [c])[j]? = some u → w.cell? ⟨g, 0 + j, none⟩ = some u := fun j u hj => by
  rw [Nat.zero_add, cell_of_row w g _ _ _ _ h]
  simpa [rowC, crow] using hj
end Go.Proofs.Ytalaolfcdaaaoaa.W
