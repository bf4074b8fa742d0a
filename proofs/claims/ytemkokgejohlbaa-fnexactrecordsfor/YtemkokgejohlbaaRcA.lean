/-
  append of a record to a row that is the call's own.
-/
import Derived.Test.YtemkokgejohlbaaRcD
import Derived.Test.YtemkokgejohlbaaArr
import Derived.Laws.AppendOwn
import Derived.Deep.AppendLies
namespace Go.Proofs.Ytemkokgejohlbaa.W
open Go.ChangeShapes Go.WideShapes Go.ChangeAt Go.RowKit
open Go.Proofs.Ytemkokgejohlbaa.M

/-- append of one record to a slice that is the call's own. -/
theorem list_appD {ops : Array Oper} {rest : List Oper} {o : Oper} {a : Act} {w : World} {Q : Exit → Act → World → Prop} (hgd : o.guard = none) (s x : Operand)
    (ho : o.op = .call { callee := .builtin .append, args := #[s, x], argTypes := #[24, 24] }) (v : Value) (cs : List Rcd) (c : Rcd) (base gx cx : Nat) (hs : a.eval s = v) (hx : a.eval x = .slice (some ⟨gx, 0, none⟩) 1 cx) (hv : OwD w base v cs)
    (hds : ∀ t u, (drow c)[t]? = some u → w.cell? ⟨gx, t, none⟩ = some u) (hl : cs.length ≤ 4194304) (hb : base ≤ w.heap.size)
    (h : ∀ g cap w', OwD w' base (.slice (some ⟨g, 0, none⟩) (cs.length + 1) cap) (cs ++ [c]) → w.grownBy w' v.ownBlock → (v.ownBlock = some g ∨ g = w.heap.size) → wpList Try.prog ops Q rest (a.put o.dst (.slice (some ⟨g, 0, none⟩) (cs.length + 1) cap)) w') : wpList Try.prog ops Q (o :: rest) a w := by
  obtain ⟨i0, hi, hz0, hz1, hz2⟩ := info_parts infoD
  refine wpList_plain hgd fun _ hK => ?_
  exact wp_append_lies w s x 24 ho base 47 i0 _ 3 24 Try.underlying24 hi hz0 hz1 hz2 rfl (by omega) v cs.length (rowD cs) hs hv ⟨gx, 0, none⟩ 1 cx (rowD [c]) hx (by rw [rowD_len]; rfl) (fun j u hj => by rw [Addr.add_lit, Nat.zero_add]; exact hds j u (by simpa [rowD] using hj)) (rowD_one [c]) (by omega) (by unfold maxLen; omega) (by omega) hb _ rfl
    (fun g cap w' r1 r2 r3 r4 => hK _ _ (h g cap w' (by unfold OwD; rw [List.length_append, rowD_append]; exact r1) r2 r3))
theorem owD_lit {w : World} {base g : Nat} (h : w.heap[g]? = some (.cells #[] 47)) (hb : base ≤ g) : OwD w base (.slice (some ⟨g, 0, none⟩) 0 0) [] :=
  ⟨rfl, .inr ⟨g, 0, #[], rfl, hb, h, Nat.le_refl _, Nat.zero_le _, rfl, rfl⟩⟩
theorem d_at {w : World} {g : Nat} {c : Rcd} {T : TypeId} (h : w.heap[g]? = some (.cells #[.int .i64 c.a, .int .i64 c.b, .int .i64 c.c] T)) : ∀ t u, (drow c)[t]? = some u → w.cell? ⟨g, t, none⟩ = some u := fun t u hj => by
  rw [cell_of_row w g _ _ _ _ h]
  simpa [drow] using hj
end Go.Proofs.Ytemkokgejohlbaa.W
