/-
  A copy of bytes that can be read: what the model's l1Copy answers.
-/
import Derived.Test.YtifgcffifffdnajSlX
import Derived.Test.YtifgcffifffdnajBase
import Derived.Deep.AppendLies
namespace Go.Proofs.Ytifgcffifffdnaj.W
open Go.ChangeShapes Go.WideShapes Go.ChangeAt Go.RowKit
open Go.Proofs.Ytifgcffifffdnaj.M

theorem copyR (v : Value) (l : List Nat) (n : Nat) (w : World) (h : Rd w v l) (hn : l.length = n) (h0 : 0 < n) (hl : n ≤ 1048576) :
    Calls Try.prog 47 #[v] w fun e w' => ∃ v', e = .returned v' ∧ Own w' w.heap.size v' l ∧ Below w.heap.size w w' := by
  obtain ⟨i0, hi, hz0, hz1, hz2⟩ := info_parts info8
  obtain ⟨b, o, cap, rfl, -, -⟩ := h.spot (by omega)
  have hO0 := own_lit0 w
  have HC := hid (fun k (hk : k < l.length) => h.cells k hk)
  clear h
  rw [hn]
  go_enter Try.func47, Try.ntmps47
  go_wp2_with (at_builtin; refine wpList_append_own _ rfl _ _ _ rfl w.heap.size 5 i0 (.int .u8 0) 1 1 Try.underlying26 hi hz0 hz1 hz2 rfl (by omega) _ _ _ rfl hO0 ⟨b, o, none⟩ n cap (l.map bv) rfl (by simp [hn]) ?_ ?_ ?_ ?_ ?_ ?_)
  · intro j u hj
    have hj' : j < l.length := by
      rcases Nat.lt_or_ge j l.length with q | q
      · exact q
      · rw [List.getElem?_eq_none (by simpa using q)] at hj; cases hj
    rw [List.getElem?_map, List.getElem?_eq_getElem hj'] at hj
    cases hj
    have q := HC.out j hj'
    rw [gt_eq l j hj'] at q
    rw [Addr.add_lit]
    exact cell_alloc q _
  · intro u hu
    obtain ⟨x, _, rfl⟩ := List.mem_map.1 hu
    rfl
  · unfold maxLen; simp; omega
  · simp; omega
  · simp
  · intro v' w1 hown1 hgrow1 _
    have hO1 : Own w1 w.heap.size v' l := by
      unfold Own
      rw [hn]
      simpa using hown1
    have hB1 : Below w.heap.size w w1 := (below_alloc1 w _).grown hgrow1 (by simp) (fun x e => by simp [Value.ownBlock] at e; omega)
    clear hown1 hgrow1 hO0
    go_wp2
    go_ret
    exact ⟨v', rfl, hO1, hB1⟩
end Go.Proofs.Ytifgcffifffdnaj.W
