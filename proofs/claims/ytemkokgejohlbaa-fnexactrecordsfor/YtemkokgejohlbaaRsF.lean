/-
  The records that a view has for a service. Lists alone.
-/
import Derived.Test.YtemkokgejohlbaaVwM
import Derived.Test.YtemkokgejohlbaaRcF
namespace Go.Proofs.Ytemkokgejohlbaa.W
open Go.ChangeShapes Go.WideShapes Go.ChangeAt Go.RowKit
open Go.Proofs.Ytemkokgejohlbaa.M

def okR (s : Int) (c : Clm) : Bool := c.s == 0 && c.m / 65536 == s
def rcO (k : Int) (c : Clm) : Rcd := ⟨k, c.n, if k = 33 then c.m % 65536 else 0⟩
def rsL (s k : Int) (cs : List Clm) : List Rcd := (cs.filter (okR s)).map (rcO k)
theorem rsL_len (s k : Int) (cs : List Clm) : (rsL s k cs).length ≤ cs.length := by
  unfold rsL
  rw [List.length_map]
  exact List.length_filter_le _ _
theorem rsL_yes {s k : Int} {cs : List Clm} {i : Nat} (hi : i < cs.length) (h : okR s cs[i] = true) : rsL s k (cs.take (i + 1)) = rsL s k (cs.take i) ++ [rcO k cs[i]] := by
  unfold rsL
  rw [List.take_succ_eq_append_getElem hi, List.filter_append, List.map_append]
  simp [h]
theorem rsL_no {s k : Int} {cs : List Clm} {i : Nat} (hi : i < cs.length) (h : okR s cs[i] = false) : rsL s k (cs.take (i + 1)) = rsL s k (cs.take i) := by
  unfold rsL
  rw [List.take_succ_eq_append_getElem hi, List.filter_append, List.map_append]
  simp [h]
/-- What RecordsFor answers. -/
def rsC (cs : List Clm) (s k : Int) : Int := if vF cs = 0 then (if (inB s 0 99 && (k == 1 || k == 33)) = true then 0 else 3) else vF cs
def rsR (cs : List Clm) (s k : Int) : List Rcd := if rsC cs s k = 0 then rsL s k cs else []
theorem rsR_small (cs : List Clm) (s k : Int) : (rsR cs s k).length ≤ 1048576 := by
  unfold rsR
  by_cases h : rsC cs s k = 0
  · rw [if_pos h]
    unfold rsC at h
    by_cases q : vF cs = 0
    · have h1 := (vF_ok q).1
      have h2 := rsL_len s k cs
      omega
    · rw [if_neg q] at h; exact absurd h q
  · rw [if_neg h]; simp
theorem clC_m {c : Clm} (h : clC c = 0) : 0 ≤ c.m ∧ c.m ≤ 9999999 := by
  unfold clC clF at h
  split at h
  · rename_i q
    simp only [inB, decide_eq_true_eq] at q
    exact q.2.2.2
  · cases h
theorem m_quo {m : Int} (h : 0 ≤ m ∧ m ≤ 9999999) : IntKind.i64.wrap (m.tdiv 65536) = m / 65536 ∧ m.tmod 65536 = m % 65536 := by
  rw [Int.tdiv_eq_ediv_of_nonneg h.1, Int.tmod_eq_emod_of_nonneg h.1, IntKind.wrap_i64]
  omega
end Go.Proofs.Ytemkokgejohlbaa.W
