/-
  One key more at the end of a slice of keys that is its own.
-/
import Derived.Test.YtbfdbicddmffnabKsM
import Derived.Test.YtbfdbicddmffnabBase
import Derived.Deep.AppendLies
namespace Go.Proofs.Ytbfdbicddmffnab.M
open Go.RowKit

theorem oks_app {w w' : World} {lo m g cap : Nat} {v u : Value} {L : List Value} {ks : List (Int × List Nat)} {id' : Int} {l : List Nat}
    (h1 : w.ownsRow lo 40 2 v ks.length L) (h2 : ∀ g, v.ownBlock = some g → g < m)
    (h3 : ∀ i (h : i < ks.length), ∃ u, L[i * 2]? = some (.int .i64 ks[i].1) ∧ L[i * 2 + 1]? = some u ∧ OB w lo m u ks[i].2 ∧ ∀ b, u.ownBlock = some b → v.ownBlock ≠ some b)
    (h4 : ∀ i j u u' a, i < j → j < ks.length → L[i * 2 + 1]? = some u → L[j * 2 + 1]? = some u' → u.ownBlock = some a → u'.ownBlock ≠ some a)
    (hm : m ≤ w.heap.size) (hlo : lo ≤ m) (hu : OB w m w.heap.size u l)
    (ho : w'.ownsRow lo 40 2 (.slice (some ⟨g, 0, none⟩) (ks.length + 1) cap) (ks.length + 1) (L ++ [.int .i64 id', u])) (hG : w.grownBy w' v.ownBlock) (hg : v.ownBlock = some g ∨ g = w.heap.size) (hgl : g < w'.heap.size) :
    OKs w' lo w'.heap.size (.slice (some ⟨g, 0, none⟩) (ks.length + 1) cap) (ks ++ [(id', l)]) := by
  have hL : L.length = ks.length * 2 := h1.1
  have nb : ∀ b, v.ownBlock = some b → b < m := h2
  have keepOld : ∀ (x : Value) (l' : List Nat), OB w lo m x l' → (∀ b, x.ownBlock = some b → v.ownBlock ≠ some b) → OB w' lo w'.heap.size x l' := fun x l' hx hne => by
    have hx2 := hx.1.kept hG (by
      cases e : x.ownBlock with
      | none => exact .inl rfl
      | some b => exact .inr (fun q => hne b e q.symm))
    exact OB.of hx2
  have keepNew : OB w' lo w'.heap.size u l := by
    have hx2 := hu.1.kept hG (by
      cases e : u.ownBlock with
      | none => exact .inl rfl
      | some b => exact .inr (fun q => by have := nb b q.symm; have := (hu.blk e).1; omega))
    exact OB.of (hx2.mono hlo)
  have apart : ∀ b, b < m → (∀ (_ : v.ownBlock = some b), False) → (some g : Option Nat) ≠ some b := fun b hb hne e => by
    cases e
    rcases hg with q | q
    · exact hne q
    · omega
  refine ⟨L ++ [.int .i64 id', u], by rw [List.length_append]; exact ho, fun g' e => by cases e; exact hgl, fun i hi => ?_, fun i j x x' a hij hj e1 e2 ea => ?_⟩
  · rw [List.length_append, List.length_singleton] at hi
    rcases Nat.lt_or_ge i ks.length with q | q
    · obtain ⟨x, q1, q2, q3, q4⟩ := h3 i q
      refine ⟨x, ?_, ?_, ?_, fun b e => apart b (q3.blk e).2 (q4 b e)⟩
      · rw [List.getElem?_append_left (by omega), List.getElem_append_left q]; exact q1
      · rw [List.getElem?_append_left (by omega)]; exact q2
      · rw [List.getElem_append_left q]; exact keepOld x _ q3 q4
    · obtain rfl : i = ks.length := by omega
      refine ⟨u, ?_, ?_, ?_, fun b e he => ?_⟩
      · rw [List.getElem?_append_right (by omega), List.getElem_append_right (by omega), show ks.length * 2 - L.length = 0 by omega]
        simp
      · rw [List.getElem?_append_right (by omega), show ks.length * 2 + 1 - L.length = 1 by omega]
        rfl
      · rw [List.getElem_append_right (by omega)]
        simpa using keepNew
      · have eb : g = b := Option.some.inj he
        have h5 := hu.blk e
        rcases hg with q | q
        · have h6 := nb g q
          omega
        · have h7 := h5.2
          rw [← eb, q] at h7
          exact absurd h7 (Nat.lt_irrefl _)
  · rw [List.length_append, List.length_singleton] at hj
    rw [List.getElem?_append_left (by omega)] at e1
    rcases Nat.lt_or_ge j ks.length with q | q
    · rw [List.getElem?_append_left (by omega)] at e2
      exact h4 i j x x' a hij q e1 e2 ea
    · obtain rfl : j = ks.length := by omega
      rw [List.getElem?_append_right (by omega), show ks.length * 2 + 1 - L.length = 1 by omega] at e2
      simp only [List.getElem?_cons_succ, List.getElem?_cons_zero, Option.some.injEq] at e2
      subst e2
      intro eb
      obtain ⟨x2, -, q2, q3, -⟩ := h3 i (by omega)
      rw [q2] at e1
      cases e1
      have h5 := (q3.blk ea).2
      have h6 := (hu.blk eb).1
      omega
end Go.Proofs.Ytbfdbicddmffnab.M
namespace Go.Proofs.Ytbfdbicddmffnab.W
open Go.ChangeShapes Go.WideShapes Go.ChangeAt Go.RowKit
open Go.Proofs.Ytbfdbicddmffnab.M

theorem infoKa : (Try.prog.info? 40).map (fun i => (i.zero, i.size, i.bytes)) = some (some (.agg #[.int .i64 0, .slice none 0 0]), 2, 32) := by kernel_rfl
theorem wp_appK {o : Oper} {a : Act} {w : World} {K : Act → World → Prop} {Q : Exit → Act → World → Prop} (s x : Operand)
    (ho : o.op = .call { callee := .builtin .append, args := #[s, x], argTypes := #[36, 36] }) (v u : Value) (ks : List (Int × List Nat)) (lo m gx cx : Nat) (id' : Int) (l : List Nat) (hs : a.eval s = v) (hx : a.eval x = .slice (some ⟨gx, 0, none⟩) 1 cx) (h : OKs w lo m v ks)
    (hm : m ≤ w.heap.size) (hlo : lo ≤ m) (c0 : w.cell? ⟨gx, 0, none⟩ = some (.int .i64 id')) (c1 : w.cell? ⟨gx, 1, none⟩ = some u) (h1 : u.oneCell' = true) (hu : OB w m w.heap.size u l) (hn : ks.length ≤ 1048576)
    (hK : ∀ g cap w', OKs w' lo w'.heap.size (.slice (some ⟨g, 0, none⟩) (ks.length + 1) cap) (ks ++ [(id', l)]) → w.grownBy w' v.ownBlock → K (a.put o.dst (.slice (some ⟨g, 0, none⟩) (ks.length + 1) cap)) w') : o.wp Try.prog a w K Q := by
  obtain ⟨i0, hi, hz0, hz1, hz2⟩ := info_parts infoKa
  obtain ⟨L, q1, q2, q3, q4⟩ := h
  exact wp_append_lies w s x 36 ho lo 40 i0 _ 2 32 Try.underlying36 hi hz0 hz1 hz2 rfl (by omega) v ks.length L hs q1 ⟨gx, 0, none⟩ 1 cx [.int .i64 id', u] hx rfl (fun j x hj => by
    match j, hj with
    | 0, hj => cases hj; exact c0
    | 1, hj => cases hj; exact c1
    | j + 2, hj => simp at hj) (fun x hx => by
    rcases List.mem_cons.1 hx with rfl | hx
    · rfl
    · obtain rfl := List.mem_singleton.1 hx; exact h1) (by omega) (by unfold maxLen; omega) (by omega) (Nat.le_trans hlo hm) _ rfl
    (fun g cap w' r1 r2 r3 r4 => hK g cap w' (oks_app q1 q2 q3 q4 hm hlo hu r1 r2 r3 r4) r2)
theorem list_appK {ops : Array Oper} {rest : List Oper} {o : Oper} {a : Act} {w : World} {Q : Exit → Act → World → Prop} (hgd : o.guard = none) (s x : Operand)
    (ho : o.op = .call { callee := .builtin .append, args := #[s, x], argTypes := #[36, 36] }) (v u : Value) (ks : List (Int × List Nat)) (lo m gx cx : Nat) (id' : Int) (l : List Nat) (hs : a.eval s = v) (hx : a.eval x = .slice (some ⟨gx, 0, none⟩) 1 cx) (h : OKs w lo m v ks)
    (hm : m ≤ w.heap.size) (hlo : lo ≤ m) (c0 : w.cell? ⟨gx, 0, none⟩ = some (.int .i64 id')) (c1 : w.cell? ⟨gx, 1, none⟩ = some u) (h1 : u.oneCell' = true) (hu : OB w m w.heap.size u l) (hn : ks.length ≤ 1048576)
    (hK : ∀ g cap w', OKs w' lo w'.heap.size (.slice (some ⟨g, 0, none⟩) (ks.length + 1) cap) (ks ++ [(id', l)]) → w.grownBy w' v.ownBlock → wpList Try.prog ops Q rest (a.put o.dst (.slice (some ⟨g, 0, none⟩) (ks.length + 1) cap)) w') : wpList Try.prog ops Q (o :: rest) a w :=
  wpList_plain hgd fun _ hK' => wp_appK s x ho v u ks lo m gx cx id' l hs hx h hm hlo c0 c1 h1 hu hn fun g cap w' r1 r2 => hK' _ _ (hK g cap w' r1 r2)
theorem step_appK {ops : Array Oper} {o : Oper} {a : Act} {w : World} {K : Act → World → Prop} {Q : Exit → Act → World → Prop} {E : Prop} (hgd : o.guard = none) (s x : Operand)
    (ho : o.op = .call { callee := .builtin .append, args := #[s, x], argTypes := #[36, 36] }) (v u : Value) (ks : List (Int × List Nat)) (lo m gx cx : Nat) (id' : Int) (l : List Nat) (hs : a.eval s = v) (hx : a.eval x = .slice (some ⟨gx, 0, none⟩) 1 cx) (h : OKs w lo m v ks)
    (hm : m ≤ w.heap.size) (hlo : lo ≤ m) (c0 : w.cell? ⟨gx, 0, none⟩ = some (.int .i64 id')) (c1 : w.cell? ⟨gx, 1, none⟩ = some u) (h1 : u.oneCell' = true) (hu : OB w m w.heap.size u l) (hn : ks.length ≤ 1048576)
    (hK : ∀ g cap w', OKs w' lo w'.heap.size (.slice (some ⟨g, 0, none⟩) (ks.length + 1) cap) (ks ++ [(id', l)]) → w.grownBy w' v.ownBlock → K (a.put o.dst (.slice (some ⟨g, 0, none⟩) (ks.length + 1) cap)) w') : if Region.wanted o (yielded ops a.tmps) = true then Oper.wp Try.prog o a w K Q else E := by
  have hw : Region.wanted o (yielded ops a.tmps) = true := by simp [Region.wanted, hgd]
  rw [if_pos hw]
  exact wp_appK s x ho v u ks lo m gx cx id' l hs hx h hm hlo c0 c1 h1 hu hn hK
end Go.Proofs.Ytbfdbicddmffnab.W
