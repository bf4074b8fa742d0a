/-
  Merging keeps views right. Plain mathematics.
-/
import Derived.Test.YtbleikbmnkjbeacVwM
namespace Go.Proofs.Ytbleikbmnkjbeac.W
open Go.RowKit
open Go.Proofs.Ytbleikbmnkjbeac.M

theorem clC_bnd {c : Clm} (h : clC c = 0) : 0 ≤ c.n ∧ c.n ≤ 3 := by
  unfold clC clF at h
  split at h
  · rename_i q
    have := q.1
    simp [inB] at this
    exact this
  · cases h
theorem rise_ge {cs : List Clm} (hp : cs.Pairwise (fun a b => a.n < b.n)) (h : ∀ c ∈ cs, clC c = 0) : ∀ i (hi : i < cs.length), (i : Int) ≤ (cs[i]'hi).n
  | 0, hi => by have := (clC_bnd (h _ (List.getElem_mem hi))).1; omega
  | i + 1, hi => by
    have h1 := rise_ge hp h i (by omega)
    have h2 : (cs[i]'(by omega)).n < (cs[i + 1]'hi).n := pair_at hp (Nat.lt_succ_self i) hi
    omega
theorem len4 {cs : List Clm} (hp : cs.Pairwise (fun a b => a.n < b.n)) (h : ∀ c ∈ cs, clC c = 0) : cs.length ≤ 4 := by
  rcases Nat.lt_or_ge 4 cs.length with q | q
  · have h1 := rise_ge hp h 4 q
    have h2 := (clC_bnd (h _ (List.getElem_mem q))).2
    exact absurd (Int.le_trans h1 h2) (by decide)
  · exact q
theorem mrg_ok {cs : List Clm} {c : Clm} (h : vF cs = 0) (hc : clC c = 0) : vF (mrg cs c) = 0 := by
  obtain ⟨h1, h2, h3⟩ := vF_ok h
  have key : (mrg cs c).Pairwise (fun a b => a.n < b.n) ∧ ∀ x ∈ mrg cs c, clC x = 0 := by
    unfold mrg
    cases hh : hasN cs c.n
    · simp only [Bool.false_eq_true, if_false]
      refine ⟨?_, fun x hx => ?_⟩
      · rw [List.pairwise_append, List.pairwise_cons]
        refine ⟨h3.sublist (List.take_sublist _ _), ⟨fun b hb => ?_, h3.sublist (List.drop_sublist _ _)⟩, fun a ha b hb => ?_⟩
        · obtain ⟨i, hi, rfl⟩ := List.getElem_of_mem hb
          rw [List.getElem_drop]
          rw [List.length_drop] at hi
          have q1 := hasN_no hh (by omega)
          rcases Nat.eq_zero_or_pos i with q | q
          · subst q
            simpa using q1
          · have := pair_at h3 (show lb cs c.n < lb cs c.n + i by omega) (by omega)
            omega
        · obtain ⟨i, hi, rfl⟩ := List.getElem_of_mem ha
          rw [List.getElem_take]
          rw [List.length_take] at hi
          have q1 := lb_low (cs := cs) (n := c.n) (i := i) (by omega)
          rcases List.mem_cons.1 hb with rfl | hb
          · exact q1
          · obtain ⟨j, hj, rfl⟩ := List.getElem_of_mem hb
            rw [List.getElem_drop]
            rw [List.length_drop] at hj
            exact pair_at h3 (by omega) (by omega)
      · rw [List.mem_append, List.mem_cons] at hx
        rcases hx with hx | rfl | hx
        · exact h2 x (List.mem_of_mem_take hx)
        · exact hc
        · exact h2 x (List.mem_of_mem_drop hx)
    · simp only [if_true]
      split
      · obtain ⟨hk, hn⟩ := hasN_yes hh
        refine ⟨?_, fun x hx => ?_⟩
        · have e : (cs.set (lb cs c.n) c).map (·.n) = cs.map (·.n) := by
            rw [List.map_set]
            apply List.ext_getElem?
            intro i
            rw [List.getElem?_set]
            by_cases q : lb cs c.n = i
            · subst q
              simp [hk, hn]
            · simp [q]
          have := (List.pairwise_map (f := fun x : Clm => x.n) (R := fun a b : Int => a < b)).2 h3
          rw [← e] at this
          exact List.pairwise_map.1 this
        · rcases List.mem_or_eq_of_mem_set hx with q | rfl
          · exact h2 x q
          · exact hc
      · exact ⟨h3, h2⟩
  exact vF_mk (len4 key.1 key.2) key.2 key.1
theorem mrg_len {cs : List Clm} {c : Clm} : (mrg cs c).length ≤ cs.length + 1 := by
  unfold mrg
  split
  · split
    · simp
    · omega
  · have := lb_le cs c.n
    simp only [List.length_append, List.length_cons, List.length_take, List.length_drop]
    omega
/-- A view behind the first k claims that were merged, one after the other, and whether it changed. -/
def mT (cs ds : List Clm) (k : Nat) : List Clm := (ds.take k).foldl mrg cs
def mB (cs ds : List Clm) (k : Nat) : Bool := (List.range k).any fun j => mch (mT cs ds j) (ds.getD j zC)
theorem mT_zero (cs ds : List Clm) : mT cs ds 0 = cs := rfl
theorem mT_succ (cs ds : List Clm) (k : Nat) (h : k < ds.length) : mT cs ds (k + 1) = mrg (mT cs ds k) ds[k] := by
  unfold mT
  rw [List.take_succ_eq_append_getElem h, List.foldl_append]
  rfl
theorem mB_succ (cs ds : List Clm) (k : Nat) (h : k < ds.length) : mB cs ds (k + 1) = (mB cs ds k || mch (mT cs ds k) ds[k]) := by
  unfold mB
  rw [List.range_succ, List.any_append]
  simp [List.getD_eq_getElem?_getD, h]
theorem mT_ok {cs ds : List Clm} (h : vF cs = 0) (hd : ∀ c ∈ ds, clC c = 0) : ∀ k, vF (mT cs ds k) = 0
  | 0 => h
  | k + 1 => by
    rcases Nat.lt_or_ge k ds.length with q | q
    · rw [mT_succ cs ds k q]
      exact mrg_ok (mT_ok h hd k) (hd _ (List.getElem_mem q))
    · have : mT cs ds (k + 1) = mT cs ds k := by
        unfold mT
        rw [List.take_of_length_le (by omega), List.take_of_length_le q]
      rw [this]
      exact mT_ok h hd k
/-- What stands in the row that the model builds, behind k claims. -/
def iT (cs : List Clm) (c : Clm) (k : Nat) : List Clm := if lb cs c.n < k then cs.take (lb cs c.n) ++ c :: (cs.take k).drop (lb cs c.n) else cs.take k
theorem iT_at (cs : List Clm) (c : Clm) (k : Nat) (h : k < cs.length) (hp : lb cs c.n = k) : iT cs c (k + 1) = (iT cs c k ++ [c]) ++ [cs[k]] := by
  unfold iT
  rw [if_pos (by omega), if_neg (by omega), hp, List.take_succ_eq_append_getElem h, List.drop_append_of_le_length (by rw [List.length_take]; omega), List.drop_of_length_le (by rw [List.length_take]; omega)]
  simp
theorem iT_off (cs : List Clm) (c : Clm) (k : Nat) (h : k < cs.length) (hp : lb cs c.n ≠ k) : iT cs c (k + 1) = iT cs c k ++ [cs[k]] := by
  unfold iT
  by_cases q : lb cs c.n < k
  · rw [if_pos (by omega), if_pos q, List.take_succ_eq_append_getElem h, List.drop_append_of_le_length (by rw [List.length_take]; omega)]
    simp
  · rw [if_neg (by omega), if_neg q, List.take_succ_eq_append_getElem h]
theorem iT_end (cs : List Clm) (c : Clm) (h : hasN cs c.n = false) (q : lb cs c.n < cs.length) : iT cs c cs.length = mrg cs c := by
  unfold iT mrg
  rw [if_pos q, h, List.take_of_length_le (Nat.le_refl _)]
  rfl
theorem iT_end' (cs : List Clm) (c : Clm) (h : hasN cs c.n = false) (q : ¬ lb cs c.n < cs.length) : iT cs c cs.length ++ [c] = mrg cs c := by
  have e : lb cs c.n = cs.length := by have := lb_le cs c.n; omega
  unfold iT mrg
  rw [if_neg q, h, e, List.drop_of_length_le (Nat.le_refl _)]
  rfl
theorem iT_len (cs : List Clm) (c : Clm) (k : Nat) : (iT cs c k).length ≤ cs.length + 1 := by
  unfold iT
  have := lb_le cs c.n
  split
  · simp only [List.length_append, List.length_cons, List.length_take, List.length_drop]
    omega
  · rw [List.length_take]
    omega
end Go.Proofs.Ytbleikbmnkjbeac.W
