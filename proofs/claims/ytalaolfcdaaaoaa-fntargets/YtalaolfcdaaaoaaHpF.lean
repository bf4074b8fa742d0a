/-
  Who helps: lists alone.
-/
import Derived.Test.YtalaolfcdaaaoaaVwM
namespace Go.Proofs.Ytalaolfcdaaaoaa.W
open Go.Proofs.Ytalaolfcdaaaoaa.M

def okH (self target : Int) (c : Clm) : Bool := c.s == 0 && (c.n != self && c.n != target)
def hpL (self target : Int) (cs : List Clm) : List Int := (cs.filter (okH self target)).map (·.n)
theorem hpL_len (self target : Int) (cs : List Clm) : (hpL self target cs).length ≤ cs.length := by
  unfold hpL
  rw [List.length_map]
  exact List.length_filter_le _ _
theorem hpL_yes {self target : Int} {cs : List Clm} {k : Nat} (hk : k < cs.length) (h : okH self target cs[k] = true) : hpL self target (cs.take (k + 1)) = hpL self target (cs.take k) ++ [cs[k].n] := by
  unfold hpL
  rw [List.take_succ_eq_append_getElem hk, List.filter_append, List.map_append]
  simp [h]
theorem hpL_no {self target : Int} {cs : List Clm} {k : Nat} (hk : k < cs.length) (h : okH self target cs[k] = false) : hpL self target (cs.take (k + 1)) = hpL self target (cs.take k) := by
  unfold hpL
  rw [List.take_succ_eq_append_getElem hk, List.filter_append, List.map_append]
  simp [h]
theorem hpL_full {self target : Int} {cs : List Clm} {k m : Nat} (h : (hpL self target (cs.take k)).length = m) : (hpL self target cs).take m = hpL self target (cs.take k) := by
  have e : hpL self target cs = hpL self target (cs.take k) ++ hpL self target (cs.drop k) := by
    conv => lhs; rw [← List.take_append_drop k cs]
    unfold hpL
    rw [List.filter_append, List.map_append]
  rw [e, ← h, List.take_left']
  rfl
theorem hpL_end {self target : Int} {cs : List Clm} {m : Nat} (h : (hpL self target cs).length ≤ m) : (hpL self target cs).take m = hpL self target cs := List.take_of_length_le h
/-- What HelpersFor answers. -/
def hpC (cs : List Clm) (self target most : Int) : Int := if vF cs = 0 then (if (inB self 0 3 && (inB target 0 3 && inB most 0 4)) = true then 0 else 3) else vF cs
def hpR (cs : List Clm) (self target most : Int) : List Int := if hpC cs self target most = 0 then (hpL self target cs).take most.toNat else []
theorem hpR_small (cs : List Clm) (self target most : Int) : (hpR cs self target most).length ≤ 1048576 := by
  unfold hpR
  by_cases h : hpC cs self target most = 0
  · rw [if_pos h]
    unfold hpC at h
    by_cases q : vF cs = 0
    · have h1 := (vF_ok q).1
      have h2 := hpL_len self target cs
      rw [List.length_take]
      omega
    · rw [if_neg q] at h; exact absurd h q
  · rw [if_neg h]; simp
end Go.Proofs.Ytalaolfcdaaaoaa.W
