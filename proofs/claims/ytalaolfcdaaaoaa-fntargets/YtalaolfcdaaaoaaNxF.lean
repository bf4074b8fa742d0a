/-
  Whom a node asks next: lists alone.
-/
import Derived.Test.YtalaolfcdaaaoaaVwM
namespace Go.Proofs.Ytalaolfcdaaaoaa.W
open Go.Proofs.Ytalaolfcdaaaoaa.M

/-- The first one but self; the first one but self above last. -/
def loN (self : Int) : List Clm → Int
  | [] => -1
  | c :: r => if c.n = self then loN self r else c.n
def abN (self last : Int) : List Clm → Int
  | [] => -1
  | c :: r => if c.n = self then abN self last r else if last < c.n then c.n else abN self last r
def nxN (self last : Int) (cs : List Clm) : Int := if 0 ≤ abN self last cs then abN self last cs else loN self cs
theorem loN_q (self : Int) : ∀ cs : List Clm, (∀ c ∈ cs, 0 ≤ c.n) → loN self cs = -1 ∨ 0 ≤ loN self cs
  | [], _ => .inl rfl
  | c :: r, h => by
    rw [loN]
    split
    · exact loN_q self r fun x hx => h x (List.mem_cons_of_mem _ hx)
    · exact .inr (h c (List.mem_cons_self ..))
theorem abN_q (self last : Int) : ∀ cs : List Clm, (∀ c ∈ cs, 0 ≤ c.n) → abN self last cs = -1 ∨ 0 ≤ abN self last cs
  | [], _ => .inl rfl
  | c :: r, h => by
    rw [abN]
    split
    · exact abN_q self last r fun x hx => h x (List.mem_cons_of_mem _ hx)
    · split
      · exact .inr (h c (List.mem_cons_self ..))
      · exact abN_q self last r fun x hx => h x (List.mem_cons_of_mem _ hx)
theorem loN_app (self : Int) : ∀ (xs ys : List Clm), (∀ c ∈ xs, 0 ≤ c.n) → loN self (xs ++ ys) = if loN self xs = -1 then loN self ys else loN self xs
  | [], ys, _ => by simp [loN]
  | c :: r, ys, h => by
    have h0 := h c (List.mem_cons_self ..)
    rw [List.cons_append, loN, loN]
    by_cases q : c.n = self
    · rw [if_pos q, if_pos q]
      exact loN_app self r ys fun x hx => h x (List.mem_cons_of_mem _ hx)
    · rw [if_neg q, if_neg q, if_neg (by omega)]
theorem abN_app (self last : Int) : ∀ (xs ys : List Clm), (∀ c ∈ xs, 0 ≤ c.n) → abN self last xs = -1 → abN self last (xs ++ ys) = abN self last ys
  | [], ys, _, _ => rfl
  | c :: r, ys, h, e => by
    have h0 := h c (List.mem_cons_self ..)
    rw [abN] at e
    rw [List.cons_append, abN]
    by_cases q : c.n = self
    · rw [if_pos q] at e ⊢
      exact abN_app self last r ys (fun x hx => h x (List.mem_cons_of_mem _ hx)) e
    · rw [if_neg q] at e ⊢
      by_cases q2 : last < c.n
      · rw [if_pos q2] at e; omega
      · rw [if_neg q2] at e ⊢
        exact abN_app self last r ys (fun x hx => h x (List.mem_cons_of_mem _ hx)) e
/-- One round of the program. -/
theorem nx_self {self last : Int} {cs : List Clm} {k : Nat} (hk : k < cs.length) (h : ∀ c ∈ cs, 0 ≤ c.n) (ha : abN self last (cs.take k) = -1) (q : cs[k].n = self) :
    abN self last (cs.take (k + 1)) = -1 ∧ loN self (cs.take (k + 1)) = loN self (cs.take k) := by
  have ht : ∀ c ∈ cs.take k, 0 ≤ c.n := fun c hc => h c (List.mem_of_mem_take hc)
  rw [List.take_succ_eq_append_getElem hk, abN_app self last _ _ ht ha, loN_app self _ _ ht]
  refine ⟨by rw [abN, if_pos q]; rfl, ?_⟩
  by_cases e : loN self (cs.take k) = -1
  · rw [if_pos e, loN, if_pos q, e]; rfl
  · rw [if_neg e]
theorem nx_stop {self last : Int} {cs : List Clm} {k : Nat} (hk : k < cs.length) (h : ∀ c ∈ cs, 0 ≤ c.n) (ha : abN self last (cs.take k) = -1) (q : cs[k].n ≠ self) (q2 : last < cs[k].n) : nxN self last cs = cs[k].n := by
  have ht : ∀ c ∈ cs.take k, 0 ≤ c.n := fun c hc => h c (List.mem_of_mem_take hc)
  have e : abN self last cs = cs[k].n := by
    conv => lhs; rw [← List.take_append_drop k cs]
    rw [abN_app self last _ _ ht ha, List.drop_eq_getElem_cons hk, abN, if_neg q, if_pos q2]
  rw [nxN, e, if_pos (h _ (List.getElem_mem hk))]
theorem nx_go {self last : Int} {cs : List Clm} {k : Nat} (hk : k < cs.length) (h : ∀ c ∈ cs, 0 ≤ c.n) (ha : abN self last (cs.take k) = -1) (q : cs[k].n ≠ self) (q2 : ¬ last < cs[k].n) :
    abN self last (cs.take (k + 1)) = -1 ∧ loN self (cs.take (k + 1)) = if loN self (cs.take k) = -1 then cs[k].n else loN self (cs.take k) := by
  have ht : ∀ c ∈ cs.take k, 0 ≤ c.n := fun c hc => h c (List.mem_of_mem_take hc)
  rw [List.take_succ_eq_append_getElem hk, abN_app self last _ _ ht ha, loN_app self _ _ ht]
  refine ⟨by rw [abN, if_neg q, if_neg q2]; rfl, ?_⟩
  by_cases e : loN self (cs.take k) = -1
  · rw [if_pos e, if_pos e, loN, if_neg q]
  · rw [if_neg e, if_neg e]
theorem nx_end {self last : Int} {cs : List Clm} (ha : abN self last cs = -1) : nxN self last cs = loN self cs := by rw [nxN, ha, if_neg (by omega)]
theorem vF_n {cs : List Clm} (h : vF cs = 0) : ∀ c ∈ cs, 0 ≤ c.n := fun c hc => by
  have q := (vF_ok h).2.1 c hc
  unfold clC clF at q
  split at q
  · rename_i r
    simp only [inB, decide_eq_true_eq] at r
    exact r.1.1
  · cases q
theorem nxN_q (self last : Int) (cs : List Clm) (h : ∀ c ∈ cs, 0 ≤ c.n) : nxN self last cs = -1 ∨ 0 ≤ nxN self last cs := by
  unfold nxN
  split
  · exact .inr (by assumption)
  · exact loN_q self cs h
/-- What NextTarget answers. -/
def ntA (cs : List Clm) (self last : Int) : Int × Int :=
  if vF cs ≠ 0 then (vF cs, 0) else if (inB self 0 3 && inB last (-1) 3) = false then (3, 0) else if nxN self last cs = -1 then (4, 0) else (0, nxN self last cs)
theorem nt_fault {cs : List Clm} {self last : Int} (h : vF cs ≠ 0) : ntA cs self last = (vF cs, 0) := by rw [ntA, if_pos h]
theorem nt_range {cs : List Clm} {self last : Int} (h : vF cs = 0) (q : (inB self 0 3 && inB last (-1) 3) = false) : ntA cs self last = (3, 0) := by rw [ntA, if_neg (by simp [h]), if_pos q]
theorem nt_none {cs : List Clm} {self last : Int} (h : vF cs = 0) (q : (inB self 0 3 && inB last (-1) 3) = true) (r : nxN self last cs = -1) : ntA cs self last = (4, 0) := by rw [ntA, if_neg (by simp [h]), if_neg (by simp [q]), if_pos r]
theorem nt_some {cs : List Clm} {self last : Int} (h : vF cs = 0) (q : (inB self 0 3 && inB last (-1) 3) = true) (r : nxN self last cs ≠ -1) : ntA cs self last = (0, nxN self last cs) := by rw [ntA, if_neg (by simp [h]), if_neg (by simp [q]), if_neg r]
end Go.Proofs.Ytalaolfcdaaaoaa.W
