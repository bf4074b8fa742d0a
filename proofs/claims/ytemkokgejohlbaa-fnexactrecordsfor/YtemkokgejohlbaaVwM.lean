/-
  Views as lists: their faults, which claim beats which, where a node stands, what a merge makes. Mostly plain mathematics.
-/
import Derived.Test.YtemkokgejohlbaaWinF
import Derived.Test.YtemkokgejohlbaaVwF
import Derived.Test.YtemkokgejohlbaaClfW
namespace Go.Proofs.Ytemkokgejohlbaa.W
open Go.RowKit
open Go.Proofs.Ytemkokgejohlbaa.M

/-- The fault of a claim. -/
def clC (c : Clm) : Int := clF c.n c.i c.s c.m
theorem clC_q (c : Clm) : clC c = 0 ∨ clC c = 3 := by
  unfold clC clF
  split
  · exact .inl rfl
  · exact .inr rfl
/-- The nodes of a view. -/
def nds (cs : List Clm) : List Int := cs.map (·.n)
theorem nds_len (cs : List Clm) : (nds cs).length = cs.length := by simp [nds]
theorem nds_at (cs : List Clm) (i : Nat) (h : i < cs.length) : (nds cs)[i]'(by rw [nds_len]; exact h) = cs[i].n := by simp [nds]
/-- The fault of a view. -/
def vF (cs : List Clm) : Int := if 4 < cs.length then 2 else if cs.all (fun c => clC c == 0) = false then 3 else if risB (nds cs) = false then 1 else 0
theorem vF_many {cs : List Clm} (h : 4 < cs.length) : vF cs = 2 := by rw [vF, if_pos h]
theorem vF_range {cs : List Clm} (h : ¬ 4 < cs.length) (k : Nat) (hk : k < cs.length) (q : clC cs[k] ≠ 0) : vF cs = 3 := by
  rw [vF, if_neg h, if_pos]
  rw [List.all_eq_false]
  exact ⟨cs[k], List.getElem_mem hk, by simpa using q⟩
theorem vF_claims {cs : List Clm} (h : ¬ 4 < cs.length) (q : ∀ k (hk : k < cs.length), clC cs[k] = 0) : vF cs = if risB (nds cs) = false then 1 else 0 := by
  rw [vF, if_neg h, if_neg]
  rw [Bool.not_eq_false, List.all_eq_true]
  intro c hc
  obtain ⟨k, hk, rfl⟩ := List.getElem_of_mem hc
  simpa using q k hk
theorem vF_rise {cs : List Clm} (h : ¬ 4 < cs.length) (q : ∀ k (hk : k < cs.length), clC cs[k] = 0) (r : ∀ i (hi : i + 1 < cs.length), cs[i].n < cs[i + 1].n) : vF cs = 0 := by
  rw [vF_claims h q, if_neg]
  rw [Bool.not_eq_false]
  exact ris_of _ fun i hi => by
    rw [nds_len] at hi
    rw [nds_at cs i (by omega), nds_at cs (i + 1) hi]
    exact r i hi
theorem vF_form {cs : List Clm} (h : ¬ 4 < cs.length) (q : ∀ k (hk : k < cs.length), clC cs[k] = 0) (i : Nat) (hi : i + 1 < cs.length) (r : cs[i + 1].n ≤ cs[i].n) : vF cs = 1 := by
  rw [vF_claims h q, if_pos]
  exact ris_no _ i (by rw [nds_len]; exact hi) (by rw [nds_at cs i (by omega), nds_at cs (i + 1) hi]; exact r)
theorem vF_ok {cs : List Clm} (h : vF cs = 0) : cs.length ≤ 4 ∧ (∀ c ∈ cs, clC c = 0) ∧ cs.Pairwise (fun a b => a.n < b.n) := by
  unfold vF at h
  split at h
  · cases h
  · split at h
    · cases h
    · split at h
      · cases h
      · rename_i h1 h2 h3
        rw [Bool.not_eq_false, List.all_eq_true] at h2
        rw [Bool.not_eq_false] at h3
        refine ⟨by omega, fun c hc => by simpa using h2 c hc, ?_⟩
        have := ris_pair h3
        unfold nds at this
        rw [List.pairwise_map] at this
        exact this
theorem vF_mk {cs : List Clm} (h1 : cs.length ≤ 4) (h2 : ∀ c ∈ cs, clC c = 0) (h3 : cs.Pairwise (fun a b => a.n < b.n)) : vF cs = 0 := by
  rw [vF_claims (by omega) fun k hk => h2 _ (List.getElem_mem hk), if_neg]
  rw [Bool.not_eq_false]
  apply pair_ris
  unfold nds
  rw [List.pairwise_map]
  exact h3
/-- Whether a beats b. -/
def bC (a b : Clm) : Bool := decide (b.i < a.i) || (decide (a.i = b.i) && decide (b.s < a.s))
/-- Where a node stands in a view, or would stand. -/
def lb (cs : List Clm) (n : Int) : Nat := cs.findIdx (fun c => decide (n ≤ c.n))
theorem lb_le (cs : List Clm) (n : Int) : lb cs n ≤ cs.length := List.findIdx_le_length
theorem lb_low {cs : List Clm} {n : Int} {i : Nat} (h : i < lb cs n) : (cs[i]'(Nat.lt_of_lt_of_le h (lb_le cs n))).n < n := by
  have := List.not_of_lt_findIdx (p := fun c : Clm => decide (n ≤ c.n)) h
  simp at this
  omega
theorem lb_at {cs : List Clm} {n : Int} (h : lb cs n < cs.length) : n ≤ (cs[lb cs n]'h).n := by
  have := List.findIdx_getElem (p := fun c : Clm => decide (n ≤ c.n)) (xs := cs) (w := h)
  exact of_decide_eq_true this
/-- Whether it stands there. -/
def hasN (cs : List Clm) (n : Int) : Bool := decide (lb cs n < cs.length) && decide ((cs.getD (lb cs n) zC).n = n)
theorem hasN_yes {cs : List Clm} {n : Int} (h : hasN cs n = true) : ∃ h : lb cs n < cs.length, (cs[lb cs n]'h).n = n := by
  unfold hasN at h
  simp only [Bool.and_eq_true, decide_eq_true_eq] at h
  obtain ⟨h1, h2⟩ := h
  exact ⟨h1, by simpa [List.getD_eq_getElem?_getD, h1] using h2⟩
theorem hasN_mk {cs : List Clm} {n : Int} (h1 : lb cs n < cs.length) (h2 : (cs[lb cs n]'h1).n = n) : hasN cs n = true := by
  unfold hasN
  simp [List.getD_eq_getElem?_getD, h1, h2]
theorem hasN_no {cs : List Clm} {n : Int} (h : hasN cs n = false) (h1 : lb cs n < cs.length) : n < (cs[lb cs n]'h1).n := by
  have h2 := lb_at h1
  have h3 : (cs[lb cs n]'h1).n ≠ n := fun e => by
    rw [hasN_mk h1 e] at h
    cases h
  omega
theorem pair_at {cs : List Clm} (hp : cs.Pairwise (fun a b => a.n < b.n)) {i j : Nat} (hij : i < j) (hj : j < cs.length) : (cs[i]'(by omega)).n < (cs[j]'hj).n :=
  List.pairwise_iff_getElem.1 hp i j (by omega) hj hij
/-- A number that is at place i of what rises stands there. -/
theorem lb_of {cs : List Clm} (hp : cs.Pairwise (fun a b => a.n < b.n)) {n : Int} {i : Nat} (hi : i < cs.length) (h : (cs[i]'hi).n = n) : lb cs n = i ∧ hasN cs n = true := by
  have e : lb cs n = i := by
    rcases Nat.lt_trichotomy (lb cs n) i with q | q | q
    · have h1 := lb_at (cs := cs) (n := n) (by omega)
      have h2 := pair_at hp q hi
      omega
    · exact q
    · have := lb_low q
      omega
  refine ⟨e, hasN_mk (by omega) ?_⟩
  simp only [e]
  exact h
theorem hasN_none {cs : List Clm} {n : Int} (h : ∀ i (hi : i < cs.length), (cs[i]'hi).n ≠ n) : hasN cs n = false := by
  cases e : hasN cs n with
  | false => rfl
  | true =>
    obtain ⟨h1, h2⟩ := hasN_yes e
    exact absurd h2 (h _ h1)
/-- What is told of a node: the code, and the claim. -/
def fcC (cs : List Clm) (n : Int) : Int := if vF cs ≠ 0 then vF cs else if hasN cs n then 0 else 4
def fcL (cs : List Clm) (n : Int) : List Clm := if vF cs = 0 ∧ hasN cs n = true then [cs.getD (lb cs n) zC] else []
/-- A view behind a claim that was merged, and whether it changed. -/
def mrg (cs : List Clm) (c : Clm) : List Clm :=
  if hasN cs c.n then (if bC c (cs.getD (lb cs c.n) zC) then cs.set (lb cs c.n) c else cs) else cs.take (lb cs c.n) ++ c :: cs.drop (lb cs c.n)
def mch (cs : List Clm) (c : Clm) : Bool := if hasN cs c.n then bC c (cs.getD (lb cs c.n) zC) else true
/-- The nodes that have a status. -/
def ndw (cs : List Clm) (s : Int) : List Int := (cs.filter (fun c => c.s == s)).map (·.n)
end Go.Proofs.Ytemkokgejohlbaa.W
