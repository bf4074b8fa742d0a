/-
  What the law of waits asks of AgeWaits and ClearWaits. Lists alone.
-/
import Derived.Test.YtalaolfcdaaaoaaWtP
namespace Go.Proofs.Ytalaolfcdaaaoaa.W
open Go.ChangeShapes Go.WideShapes Go.ChangeAt Go.RowKit
open Go.Proofs.Ytalaolfcdaaaoaa.M

theorem wtG_mk : ∀ (cs : List Wai), (∀ x ∈ cs, wt1 x = 0) → wtG cs = 0
  | [], _ => rfl
  | x :: r, h => by rw [wtG, if_pos (h x (List.mem_cons_self ..)), wtG_mk r fun y hy => h y (List.mem_cons_of_mem _ hy)]
theorem wtF_mk {cs : List Wai} (hl : cs.length ≤ 40) (h : ∀ x ∈ cs, wt1 x = 0) : wtF cs = 0 := by
  unfold wtF
  rw [if_neg (by omega), wtG_mk cs h]
theorem wtF_mem {cs : List Wai} (h : wtF cs = 0) : ∀ x ∈ cs, wt1 x = 0 := fun x hx => by
  obtain ⟨i, hi, rfl⟩ := List.mem_iff_getElem.1 hx
  exact wtF_get h i hi
theorem wt1_both {x : Wai} (h : wt1 x = 0) : wtfB x = true ∧ wtbB x = true := by
  unfold wt1 at h
  by_cases h1 : wtfB x = true
  · by_cases h2 : wtbB x = true
    · exact ⟨h1, h2⟩
    · rw [if_pos h1, if_neg h2] at h
      exact absurd h (by decide)
  · rw [if_neg h1] at h
    exact absurd h (by decide)
theorem wt1_age {x : Wai} (h : wt1 x = 0) (he : (fAge x).2 = false) : wt1 (fAge x).1 = 0 := by
  have hb := wt1_both h
  have hx := wt1_e h
  have h1 : wtfB (fAge x).1 = true := by
    have := hb.1
    unfold wtfB fAge at *
    exact this
  have h2 : wtbB (fAge x).1 = true := by
    have := hb.2
    simp only [wtbB, fAge, Bool.and_eq_true] at this ⊢
    simp only [fAge, beq_eq_false_iff_ne, ne_eq] at he
    refine ⟨this.1, this.2.1, this.2.2.1, ?_, this.2.2.2.2⟩
    unfold inB
    rw [decide_eq_true_eq]
    omega
  unfold wt1
  rw [if_pos h1, if_pos h2]
theorem age_len {cs : List Wai} (h : wtF cs = 0) : (agL cs).length + (agE cs).length = cs.length := by
  rw [agL, if_pos h, agE, if_pos h]
  exact pt_len _ _
theorem age_ok {cs : List Wai} (h : wtF cs = 0) : wtF (agL cs) = 0 := by
  rw [agL, if_pos h]
  refine wtF_mk (Nat.le_trans (ptL_len _ _) (wtF_len h)) fun x hx => ?_
  obtain ⟨y, hy, rfl⟩ := List.mem_map.1 hx
  obtain ⟨h1, h2⟩ := List.mem_filter.1 hy
  exact wt1_age (wtF_mem h y h1) (by simpa using h2)
theorem crC_ok {cs : List Wai} {s : Int} (h : crC cs s = 0) : wtF cs = 0 ∧ inB s 0 1000000 = true := by
  unfold crC at h
  by_cases q : wtF cs = 0
  · rw [if_pos q] at h
    by_cases r : inB s 0 1000000 = true
    · exact ⟨q, r⟩
    · rw [if_neg r] at h; exact absurd h (by decide)
  · rw [if_neg q] at h; exact absurd h q
theorem clr_len {cs : List Wai} {s : Int} (h : crC cs s = 0) : (crL cs s).length + (crE cs s).length = cs.length := by
  rw [crL, if_pos h, crE, if_pos h]
  exact pt_len _ _
theorem ptL_clr (s : Int) (cs : List Wai) : ptL (fClr s) cs = cs.filter fun x => !(fClr s x).2 := by
  unfold ptL
  have e : ∀ l : List Wai, l.map (fun x => (fClr s x).1) = l := fun l => by
    conv => rhs; rw [← List.map_id l]
    exact List.map_congr_left fun x _ => rfl
  exact e _
theorem clr_again {cs : List Wai} {s : Int} (h : crC cs s = 0) : crC (crL cs s) s = 0 ∧ crL (crL cs s) s = crL cs s ∧ crE (crL cs s) s = [] := by
  have ho := crC_ok h
  have e : crL cs s = cs.filter fun x => !(fClr s x).2 := by rw [crL, if_pos h, ptL_clr]
  have hw : wtF (crL cs s) = 0 := by
    rw [e]
    exact wtF_mk (Nat.le_trans (List.length_filter_le _ _) (wtF_len ho.1)) fun x hx => wtF_mem ho.1 x (List.mem_filter.1 hx).1
  have hc : crC (crL cs s) s = 0 := by rw [crC, if_pos hw, if_pos ho.2]
  refine ⟨hc, ?_, ?_⟩
  · rw [crL, if_pos hc, ptL_clr, e, List.filter_filter]
    exact List.filter_congr fun x _ => by simp
  · rw [crE, if_pos hc, ptE, e, List.filter_filter, List.filter_eq_nil_iff.2 (fun x _ => by simp)]
    rfl
theorem swA_self (cs : List Wai) : swA cs cs = true := (swA_iff cs cs).2 rfl
theorem wsum_eq {a b n : Nat} (h : a + b = n) (hn : n ≤ 1048576) : IntKind.i64.wrap ((a : Int) + (b : Int)) = (n : Int) := by
  rw [IntKind.wrap_i64]
  omega
end Go.Proofs.Ytalaolfcdaaaoaa.W
