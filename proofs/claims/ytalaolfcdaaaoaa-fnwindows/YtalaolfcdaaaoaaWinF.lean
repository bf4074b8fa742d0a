/-
  Windows as lists: their faults, a counter that is taken, counters one after the other. No function of the program is named here.
-/
import Derived.WalkKit
namespace Go.Proofs.Ytalaolfcdaaaoaa.M
open Go.RowKit

/-- A number that a window with this top may have seen. -/
def inW (top x : Int) : Bool := decide (0 ≤ x) && decide (x ≤ top) && decide (top - 16 < x)
theorem inW_yes {top x : Int} (h : inW top x = true) : 0 ≤ x ∧ x ≤ top ∧ top - 16 < x := by simp [inW] at h; omega
theorem inW_no {top x : Int} (h : ¬ inW top x = true) : ¬ (0 ≤ x ∧ x ≤ top) ∨ x ≤ top - 16 := by simp [inW] at h; omega
theorem inW_mk {top x : Int} (h : 0 ≤ x ∧ x ≤ top) (h2 : ¬ x ≤ top - 16) : inW top x = true := by simp [inW]; omega
theorem inW_not {top x : Int} (h : ¬ (0 ≤ x ∧ x ≤ top) ∨ x ≤ top - 16) : inW top x = false := by
  cases e : inW top x with
  | false => rfl
  | true => have := inW_yes e; omega
/-- They rise. -/
def risB : List Int → Bool
  | a :: b :: r => decide (a < b) && risB (b :: r)
  | _ => true
/-- The fault of a window. -/
def wF (top : Int) (l : List Int) : Int :=
  if top < -1 ∨ 1000000000 < top then 3 else if l.all (inW top) = false then 3 else if risB l = false then 1 else if 0 ≤ top ∧ l.getLast? ≠ some top then 8 else 0
theorem ris_of : ∀ (l : List Int), (∀ i (h : i + 1 < l.length), l[i] < l[i + 1]) → risB l = true
  | [], _ => rfl
  | [_], _ => rfl
  | a :: b :: r, h => by
    have h0 : a < b := by simpa using h 0 (by simp)
    have h1 := ris_of (b :: r) fun i hi => h (i + 1) (by simpa using hi)
    simp [risB, h0, h1]
theorem ris_no : ∀ (l : List Int) (i : Nat) (h : i + 1 < l.length), l[i + 1] ≤ l[i] → risB l = false
  | [], i, h, _ => by simp at h
  | [_], i, h, _ => by simp at h
  | a :: b :: r, 0, h, q => by
    have q : b ≤ a := by simpa using q
    simp [risB]
    intro; omega
  | a :: b :: r, i + 1, h, q => by
    have := ris_no (b :: r) i (by simpa using h) (by simpa using q)
    simp [risB, this]
theorem ris_pair : ∀ {l : List Int}, risB l = true → l.Pairwise (· < ·)
  | [], _ => .nil
  | [_], _ => by simp
  | a :: b :: r, h => by
    simp only [risB, Bool.and_eq_true, decide_eq_true_eq] at h
    have ih := ris_pair h.2
    refine List.pairwise_cons.2 ⟨fun x hx => ?_, ih⟩
    rcases List.mem_cons.1 hx with rfl | hx
    · exact h.1
    · have := (List.pairwise_cons.1 ih).1 x hx
      omega
theorem pair_ris : ∀ {l : List Int}, l.Pairwise (· < ·) → risB l = true
  | [], _ => rfl
  | [_], _ => rfl
  | a :: b :: r, h => by
    have h1 := List.pairwise_cons.1 h
    have h2 := h1.1 b (by simp)
    simp [risB, h2, pair_ris h1.2]
/-- Two lists that rise and have the same numbers are one. -/
theorem ris_ext : ∀ {l m : List Int}, l.Pairwise (· < ·) → m.Pairwise (· < ·) → (∀ x, x ∈ l ↔ x ∈ m) → l = m
  | [], [], _, _, _ => rfl
  | [], b :: s, _, _, h => by have := (h b).2 (by simp); simp at this
  | a :: r, [], _, _, h => by have := (h a).1 (by simp); simp at this
  | a :: r, b :: s, hl, hm, h => by
    have l1 := List.pairwise_cons.1 hl
    have m1 := List.pairwise_cons.1 hm
    have e : a = b := by
      rcases List.mem_cons.1 ((h a).1 (by simp)) with q | q
      · exact q
      · rcases List.mem_cons.1 ((h b).2 (by simp)) with q' | q'
        · exact q'.symm
        · have := m1.1 a q
          have := l1.1 b q'
          omega
    subst e
    rw [ris_ext l1.2 m1.2 fun x => ?_]
    constructor
    · intro hx
      rcases List.mem_cons.1 ((h x).1 (List.mem_cons_of_mem _ hx)) with q | q
      · subst q; have := l1.1 x hx; omega
      · exact q
    · intro hx
      rcases List.mem_cons.1 ((h x).2 (List.mem_cons_of_mem _ hx)) with q | q
      · subst q; have := m1.1 x hx; omega
      · exact q
/-- What rises between two numbers is no longer than they lie apart. -/
theorem ris_len : ∀ {l : List Int} {a b : Int}, l.Pairwise (· < ·) → (∀ x ∈ l, a ≤ x ∧ x ≤ b) → (l.length : Int) ≤ max 0 (b - a + 1)
  | [], a, b, _, _ => by simp; omega
  | x :: r, a, b, hl, h => by
    have l1 := List.pairwise_cons.1 hl
    have hx := h x (by simp)
    have ih := ris_len (a := x + 1) (b := b) l1.2 fun y hy => by
      have := l1.1 y hy
      have := h y (List.mem_cons_of_mem _ hy)
      omega
    simp only [List.length_cons]
    omega
/-- The last one of what rises is the greatest. -/
theorem last_top : ∀ {l : List Int} {top : Int}, l.Pairwise (· < ·) → (∀ x ∈ l, x ≤ top) → (l.getLast? = some top ↔ top ∈ l)
  | [], _, _, _ => by simp
  | [x], top, _, _ => by simp; exact ⟨fun h => h.symm, fun h => h.symm⟩
  | x :: y :: r, top, hl, h => by
    have l1 := List.pairwise_cons.1 hl
    rw [List.getLast?_cons_cons, last_top l1.2 fun z hz => h z (List.mem_cons_of_mem _ hz)]
    constructor
    · exact fun q => List.mem_cons_of_mem _ q
    · intro q
      rcases List.mem_cons.1 q with q | q
      · subst q
        have := l1.1 y (by simp)
        have := h y (by simp)
        omega
      · exact q
theorem wF_range {top : Int} {l : List Int} (h : ¬ (-1 ≤ top ∧ top ≤ 1000000000)) : wF top l = 3 := by rw [wF, if_pos (by omega)]
theorem wF_bad {top : Int} {l : List Int} (i : Nat) (hi : i < l.length) (h : inW top l[i] = false) : wF top l = 3 := by
  by_cases q : top < -1 ∨ 1000000000 < top
  · rw [wF, if_pos q]
  · rw [wF, if_neg q, if_pos]
    rw [List.all_eq_false]
    exact ⟨l[i], List.getElem_mem hi, by simp [h]⟩
theorem all_inW {top : Int} {l : List Int} (h : ∀ i (hi : i < l.length), inW top l[i] = true) : l.all (inW top) = true := by
  rw [List.all_eq_true]
  intro x hx
  obtain ⟨i, hi, rfl⟩ := List.getElem_of_mem hx
  exact h i hi
theorem wF_form {top : Int} {l : List Int} (h : -1 ≤ top ∧ top ≤ 1000000000) (ha : ∀ i (hi : i < l.length), inW top l[i] = true) (i : Nat) (hi : i + 1 < l.length) (hr : l[i + 1] ≤ l[i]) : wF top l = 1 := by
  rw [wF, if_neg (by omega), if_neg (by rw [all_inW ha]; simp), if_pos (ris_no l i hi hr)]
theorem wF_last {top : Int} {l : List Int} (h : -1 ≤ top ∧ top ≤ 1000000000) (ha : ∀ i (hi : i < l.length), inW top l[i] = true) (hr : ∀ i (hi : i + 1 < l.length), l[i] < l[i + 1]) (h0 : 0 ≤ top) (hl : l.getLast? ≠ some top) : wF top l = 8 := by
  rw [wF, if_neg (by omega), if_neg (by rw [all_inW ha]; simp), if_neg (by rw [ris_of l hr]; simp), if_pos ⟨h0, hl⟩]
theorem wF_ok {top : Int} {l : List Int} (h : -1 ≤ top ∧ top ≤ 1000000000) (ha : ∀ i (hi : i < l.length), inW top l[i] = true) (hr : ∀ i (hi : i + 1 < l.length), l[i] < l[i + 1]) (hl : ¬ (0 ≤ top ∧ l.getLast? ≠ some top)) : wF top l = 0 := by
  rw [wF, if_neg (by omega), if_neg (by rw [all_inW ha]; simp), if_neg (by rw [ris_of l hr]; simp), if_neg hl]
/-- What a window without a fault is. -/
structure WOk (top : Int) (l : List Int) : Prop where
  rng : -1 ≤ top ∧ top ≤ 1000000000
  mem : ∀ x ∈ l, 0 ≤ x ∧ x ≤ top ∧ top - 16 < x
  ris : l.Pairwise (· < ·)
  last : 0 ≤ top → top ∈ l
theorem wF_zero {top : Int} {l : List Int} (h : wF top l = 0) : WOk top l := by
  unfold wF at h
  by_cases q1 : top < -1 ∨ 1000000000 < top
  · rw [if_pos q1] at h; omega
  rw [if_neg q1] at h
  by_cases q2 : l.all (inW top) = false
  · rw [if_pos q2] at h; omega
  rw [if_neg q2] at h
  by_cases q3 : risB l = false
  · rw [if_pos q3] at h; omega
  rw [if_neg q3] at h
  by_cases q4 : 0 ≤ top ∧ l.getLast? ≠ some top
  · rw [if_pos q4] at h; omega
  have hm : ∀ x ∈ l, 0 ≤ x ∧ x ≤ top ∧ top - 16 < x := fun x hx => inW_yes (List.all_eq_true.1 (by simpa using q2) x hx)
  have hr := ris_pair (by simpa using q3)
  refine ⟨by omega, hm, hr, fun h0 => ?_⟩
  have q5 : l.getLast? = some top := by
    cases e : decide (l.getLast? = some top) with
    | true => simpa using e
    | false => exact absurd ⟨h0, by simpa using e⟩ q4
  exact (last_top hr fun x hx => (hm x hx).2.1).1 q5
theorem WOk.zero {top : Int} {l : List Int} (h : WOk top l) : wF top l = 0 := by
  rw [wF, if_neg (by have := h.rng; omega), if_neg, if_neg (by rw [pair_ris h.ris]; simp), if_neg]
  · rintro ⟨q1, q2⟩
    exact q2 ((last_top h.ris fun x hx => (h.mem x hx).2.1).2 (h.last q1))
  · rw [List.all_eq_true.2 fun x hx => inW_mk ⟨(h.mem x hx).1, (h.mem x hx).2.1⟩ (by have := (h.mem x hx).2.2; omega)]
    simp
theorem WOk.len {top : Int} {l : List Int} (h : WOk top l) : l.length ≤ 16 := by
  have := ris_len (a := top - 15) (b := top) h.ris fun x hx => by have := h.mem x hx; omega
  omega
/-- The code of a counter that is to be taken by a window without a fault. -/
def tkC (top : Int) (l : List Int) (n : Int) : Int :=
  if n < 0 ∨ 1000000000 < n then 3 else if l.contains n = true then 6 else if n ≤ top - 16 then 8 else 0
/-- The new top. -/
def tkT (top n : Int) : Int := if top < n then n else top
/-- n at its place among those above t. -/
def insZ (t n : Int) : List Int → List Int
  | [] => [n]
  | x :: r => if n < x then n :: (x :: r).filter (fun y => decide (t < y)) else (if t < x then [x] else []) ++ insZ t n r
theorem mem_insZ (t n y : Int) : ∀ l : List Int, y ∈ insZ t n l ↔ y = n ∨ (y ∈ l ∧ t < y)
  | [] => by simp [insZ]
  | x :: r => by
    unfold insZ
    split
    · simp
    · rw [List.mem_append, mem_insZ t n y r]
      split
      · simp only [List.mem_cons, List.not_mem_nil, or_false]
        constructor
        · rintro (q | q | q)
          · subst q; exact .inr ⟨.inl rfl, by assumption⟩
          · exact .inl q
          · exact .inr ⟨.inr q.1, q.2⟩
        · rintro (q | ⟨q | q, q'⟩)
          · exact .inr (.inl q)
          · exact .inl q
          · exact .inr (.inr ⟨q, q'⟩)
      · rename_i hn
        simp only [List.not_mem_nil, false_or, List.mem_cons]
        constructor
        · rintro (q | q)
          · exact .inl q
          · exact .inr ⟨.inr q.1, q.2⟩
        · rintro (q | ⟨q | q, q'⟩)
          · exact .inl q
          · subst q; exact absurd q' hn
          · exact .inr ⟨q, q'⟩
theorem ris_insZ (t n : Int) : ∀ l : List Int, l.Pairwise (· < ·) → n ∉ l → (insZ t n l).Pairwise (· < ·)
  | [], _, _ => by simp [insZ]
  | x :: r, h, hn => by
    have h1 := List.pairwise_cons.1 h
    unfold insZ
    split
    · rename_i q
      refine List.pairwise_cons.2 ⟨fun y hy => ?_, h.filter _⟩
      have hy := (List.mem_filter.1 hy).1
      rcases List.mem_cons.1 hy with e | e
      · omega
      · have := h1.1 y e; omega
    · rename_i q
      have ne : n ≠ x := fun e => hn (by rw [e]; simp)
      have ih := ris_insZ t n r h1.2 (fun e => hn (List.mem_cons_of_mem _ e))
      split
      · refine List.pairwise_cons.2 ⟨fun y hy => ?_, ih⟩
        rcases (mem_insZ t n y r).1 hy with e | e
        · omega
        · exact h1.1 y e.1
      · exact ih
theorem tkC_zero {top : Int} {l : List Int} {n : Int} (h : tkC top l n = 0) : (0 ≤ n ∧ n ≤ 1000000000) ∧ n ∉ l ∧ top - 16 < n := by
  unfold tkC at h
  by_cases q1 : n < 0 ∨ 1000000000 < n
  · rw [if_pos q1] at h; omega
  rw [if_neg q1] at h
  by_cases q2 : l.contains n = true
  · rw [if_pos q2] at h; omega
  rw [if_neg q2] at h
  by_cases q3 : n ≤ top - 16
  · rw [if_pos q3] at h; omega
  exact ⟨by omega, fun e => q2 (by simpa using e), by omega⟩
theorem tkC_range {top : Int} {l : List Int} {n : Int} (h : ¬ (0 ≤ n ∧ n ≤ 1000000000)) : tkC top l n = 3 := by rw [tkC, if_pos (by omega)]
theorem tkC_there {top : Int} {l : List Int} {n : Int} (h : 0 ≤ n ∧ n ≤ 1000000000) (h1 : n ∈ l) : tkC top l n = 6 := by rw [tkC, if_neg (by omega), if_pos (by simpa using h1)]
theorem tkC_old {top : Int} {l : List Int} {n : Int} (h : 0 ≤ n ∧ n ≤ 1000000000) (h1 : n ∉ l) (h2 : n ≤ top - 16) : tkC top l n = 8 := by rw [tkC, if_neg (by omega), if_neg (by simpa using h1), if_pos h2]
theorem tkC_ok {top : Int} {l : List Int} {n : Int} (h : 0 ≤ n ∧ n ≤ 1000000000) (h1 : n ∉ l) (h2 : ¬ n ≤ top - 16) : tkC top l n = 0 := by rw [tkC, if_neg (by omega), if_neg (by simpa using h1), if_neg h2]
/-- What is left is without a fault. -/
theorem WOk.take {top : Int} {l : List Int} {n : Int} (h : WOk top l) (hc : tkC top l n = 0) : WOk (tkT top n) (insZ (tkT top n - 16) n l) := by
  obtain ⟨h1, h2, h3⟩ := tkC_zero hc
  have ht := h.rng
  have tt : top ≤ tkT top n ∧ n ≤ tkT top n ∧ (tkT top n = top ∨ tkT top n = n) := by unfold tkT; split <;> omega
  refine ⟨by omega, fun x hx => ?_, ris_insZ _ _ _ h.ris h2, fun h0 => ?_⟩
  · rcases (mem_insZ _ _ _ _).1 hx with e | ⟨e, q⟩
    · subst e
      unfold tkT at *
      split <;> (split at tt <;> omega)
    · have := h.mem x e
      omega
  · refine (mem_insZ _ _ _ _).2 ?_
    unfold tkT at *
    split
    · exact .inl rfl
    · rename_i q
      exact .inr ⟨h.last (by omega), by omega⟩
end Go.Proofs.Ytalaolfcdaaaoaa.M
