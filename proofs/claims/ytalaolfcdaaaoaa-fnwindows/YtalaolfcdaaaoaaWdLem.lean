/-
  What the law of windows asks of TakeCounter and TakeAll. Lists alone.
-/
import Derived.Test.YtalaolfcdaaaoaaTaF
namespace Go.Proofs.Ytalaolfcdaaaoaa.M
open Go.RowKit

/-- The number at a place. -/
def vAt (zs : List Int) (p : Int) : Int := zs.getD p.toNat 0
theorem tkT_ge (top n : Int) : top ≤ tkT top n ∧ n ≤ tkT top n := by unfold tkT; split <;> omega
theorem ta_inv {top : Int} {l : List Int} (zs : List Int) : ∀ k, (∀ p ∈ taL top l zs k, ∃ j : Nat, p = (j : Int) ∧ j < k) ∧ (∀ p ∈ taL top l zs k, vAt zs p ∈ (taSt top l zs k).2 ∨ vAt zs p ≤ (taSt top l zs k).1 - 16) ∧ (taL top l zs k).Pairwise (fun a b => vAt zs a ≠ vAt zs b)
  | 0 => ⟨fun p hp => by simp [taL] at hp, fun p hp => by simp [taL] at hp, by simp [taL]⟩
  | k + 1 => by
    obtain ⟨h1, h2, h3⟩ := ta_inv (top := top) (l := l) zs k
    by_cases hc : tkC (taSt top l zs k).1 (taSt top l zs k).2 (zs.getD k 0) = 0
    · have eL : taL top l zs (k + 1) = taL top l zs k ++ [(k : Int)] := by rw [taL, if_pos hc]
      have eS : taSt top l zs (k + 1) = (tkT (taSt top l zs k).1 (zs.getD k 0), insZ (tkT (taSt top l zs k).1 (zs.getD k 0) - 16) (zs.getD k 0) (taSt top l zs k).2) := by rw [taSt]; simp only [hc, if_true]
      have hz := tkC_zero hc
      have hg := tkT_ge (taSt top l zs k).1 (zs.getD k 0)
      have ev : vAt zs (k : Int) = zs.getD k 0 := by simp [vAt]
      rw [eL, eS]
      refine ⟨fun p hp => ?_, fun p hp => ?_, ?_⟩
      · rcases List.mem_append.1 hp with q | q
        · obtain ⟨j, e, hj⟩ := h1 p q
          exact ⟨j, e, by omega⟩
        · exact ⟨k, by simpa using q, by omega⟩
      · rcases List.mem_append.1 hp with q | q
        · by_cases hv : tkT (taSt top l zs k).1 (zs.getD k 0) - 16 < vAt zs p
          · refine .inl ((mem_insZ _ _ _ _).2 (.inr ⟨?_, hv⟩))
            rcases h2 p q with r | r
            · exact r
            · exfalso; omega
          · exact .inr (by omega)
        · obtain rfl : p = (k : Int) := by simpa using q
          exact .inl ((mem_insZ _ _ _ _).2 (.inl ev))
      · rw [List.pairwise_append]
        refine ⟨h3, by simp, fun a ha b hb => ?_⟩
        obtain rfl : b = (k : Int) := by simpa using hb
        rw [ev]
        intro e
        rcases h2 a ha with r | r
        · rw [e] at r
          exact hz.2.1 r
        · rw [e] at r
          have := hz.2.2
          omega
    · have eL : taL top l zs (k + 1) = taL top l zs k := by rw [taL, if_neg hc]
      have eS : taSt top l zs (k + 1) = taSt top l zs k := by rw [taSt]; simp only [hc, if_false]
      rw [eL, eS]
      exact ⟨fun p hp => by obtain ⟨j, e, hj⟩ := h1 p hp; exact ⟨j, e, by omega⟩, h2, h3⟩
theorem ta_facts {top c : Int} {l zs lr : List Int} (h : TaIs top l zs c lr) : (∀ i (hi : i < lr.length), ∃ j : Nat, lr[i] = (j : Int) ∧ j < zs.length) ∧ (lr.map (vAt zs)).Pairwise (fun a b => a ≠ b) := by
  rcases h with ⟨-, -, rfl⟩ | ⟨-, -, -, rfl⟩ | ⟨-, -, -, rfl⟩
  · exact ⟨fun i hi => by simp at hi, by simp⟩
  · exact ⟨fun i hi => by simp at hi, by simp⟩
  · obtain ⟨h1, -, h3⟩ := ta_inv (top := top) (l := l) zs zs.length
    exact ⟨fun i hi => h1 _ (List.getElem_mem hi), by rw [List.pairwise_map]; exact h3⟩
theorem vs_ne {vs : List Int} (h : vs.Pairwise (fun a b => a ≠ b)) {i : Nat} (hi : i < vs.length) : ∀ k (hk : k < (vs.take i).length), ((vs.take i)[k] == vs[i]) = false := fun k hk => by
  rw [List.length_take] at hk
  rw [List.getElem_take, beq_eq_false_iff_ne]
  exact List.pairwise_iff_getElem.1 h k i (by omega) hi (by omega)
/-- A counter that was taken: the window behind it. -/
theorem tc_law {top n c rk : Int} {l lr : List Int} (h : TcIs top l n c rk lr) (h0 : c = 0) :
    WOk rk lr ∧ n ∈ lr ∧ rk = tkT top n ∧ (0 ≤ n ∧ n ≤ 1000000000) ∧ wF rk lr = 0 ∧ newsB rk lr (rk - 16) = false ∧ newsB (-1) [] n = true ∧ (∀ c2 rk2 lr2, TcIs rk lr n c2 rk2 lr2 → c2 = 6) := by
  rcases h with ⟨h1, e, -, -⟩ | ⟨-, h2, e, -, -⟩ | ⟨h1, h2, -, e, e2⟩
  · exact absurd (e.symm.trans h0) h1
  · exact absurd (e.symm.trans h0) h2
  · have hz := tkC_zero h2
    have wo : WOk rk lr := by rw [e, e2]; exact (wF_zero h1).take h2
    have hm : n ∈ lr := by rw [e2]; exact (mem_insZ _ _ _ _).2 (.inl rfl)
    have hr := wo.rng
    have wn : WOk (-1) [] := ⟨by omega, fun x hx => by simp at hx, .nil, fun h => by omega⟩
    refine ⟨wo, hm, e, hz.1, wo.zero, ?_, ?_, fun c2 rk2 lr2 h => ?_⟩
    · unfold newsB
      rw [decide_eq_false_iff_not]
      rintro ⟨-, q⟩
      have := (tkC_zero q).2.2
      omega
    · unfold newsB
      rw [decide_eq_true_eq]
      refine ⟨wn.zero, ?_⟩
      unfold tkC
      rw [if_neg (by omega), if_neg (by simp), if_neg (by omega)]
    · have e6 : tkC rk lr n = 6 := by
        unfold tkC
        rw [if_neg (by omega), if_pos (by simpa using hm)]
      rcases h with ⟨q, -, -, -⟩ | ⟨-, -, q, -, -⟩ | ⟨-, q, -, -, -⟩
      · exact absurd wo.zero q
      · rw [q, e6]
      · rw [e6] at q; exact absurd q (by decide)
theorem wn_zero : wF (-1) [] = 0 := (show WOk (-1) [] from ⟨by omega, fun x hx => by simp at hx, .nil, fun h => by omega⟩).zero
end Go.Proofs.Ytalaolfcdaaaoaa.M
