/-
  What BuryBy answers.
-/
import Derived.Test.YtalaolfcdaaaoaaCrF
import Derived.Test.YtalaolfcdaaaoaaWtVs
import Derived.Test.YtalaolfcdaaaoaaWtA
namespace Go.Proofs.Ytalaolfcdaaaoaa.W
open Go.ChangeShapes Go.WideShapes Go.ChangeAt Go.RowKit
open Go.Proofs.Ytalaolfcdaaaoaa.M

def buA (cs : List Clm) (x : Wai) : Int × Clm × Bool :=
  if vF cs ≠ 0 then (vF cs, zC, false) else if wt1 x ≠ 0 then (wt1 x, zC, false) else if hasN cs x.c = false then (4, zC, false) else if x.a = 3 ∧ (cs.getD (lb cs x.c) zC).s = 1 ∧ (cs.getD (lb cs x.c) zC).i = x.d then (0, ⟨(cs.getD (lb cs x.c) zC).n, (cs.getD (lb cs x.c) zC).i, 2, (cs.getD (lb cs x.c) zC).m⟩, true) else (0, cs.getD (lb cs x.c) zC, false)
theorem bu_fault {cs : List Clm} {x : Wai} (h : vF cs ≠ 0) : buA cs x = (vF cs, zC, false) := by rw [buA, if_pos h]
theorem bu_wait {cs : List Clm} {x : Wai} (h : vF cs = 0) (q : wt1 x ≠ 0) : buA cs x = (wt1 x, zC, false) := by rw [buA, if_neg (by simp [h]), if_pos q]
theorem bu_none {cs : List Clm} {x : Wai} (h : vF cs = 0) (h2 : wt1 x = 0) (q : hasN cs x.c = false) : buA cs x = (4, zC, false) := by rw [buA, if_neg (by simp [h]), if_neg (by simp [h2]), if_pos q]
theorem bu_made {cs : List Clm} {x : Wai} (h : vF cs = 0) (h2 : wt1 x = 0) (q : hasN cs x.c = true) {X : Clm} (hX : X = cs.getD (lb cs x.c) zC) (h0 : x.a = 3 ∧ X.s = 1 ∧ X.i = x.d) : buA cs x = (0, ⟨X.n, X.i, 2, X.m⟩, true) := by rw [buA, if_neg (by simp [h]), if_neg (by simp [h2]), if_neg (by simp [q]), ← hX, if_pos h0]
theorem bu_same {cs : List Clm} {x : Wai} (h : vF cs = 0) (h2 : wt1 x = 0) (q : hasN cs x.c = true) {X : Clm} (hX : X = cs.getD (lb cs x.c) zC) (h0 : ¬ (x.a = 3 ∧ X.s = 1 ∧ X.i = x.d)) : buA cs x = (0, X, false) := by rw [buA, if_neg (by simp [h]), if_neg (by simp [h2]), if_neg (by simp [q]), ← hX, if_neg h0]
theorem wtF_one (x : Wai) : wtF [x] = wt1 x := by
  rw [wtF, if_neg (by simp), wtG]
  split
  · rename_i h; rw [h]; rfl
  · rfl
theorem rdJ_one {w : World} {g : Nat} {x : Wai} {T : TypeId} (h : w.heap[g]? = some (.cells #[.int .i64 x.a, .int .i64 x.b, .int .i64 x.c, .int .i64 x.d, .int .i64 x.e, .int .i64 x.f, .int .i64 x.g] T)) : RdJ w (.slice (some ⟨g, 0, none⟩) 1 1) [x] := by
  refine ⟨_, 1, rfl, Nat.le_refl _, by unfold maxLen; omega, fun i hi => ⟨g, 0, rfl, fun t u q => ?_⟩⟩
  obtain rfl : i = 0 := by simpa using hi
  rw [Nat.zero_mul, Nat.add_zero, Nat.zero_add]
  exact j_at h t u (by simpa using q)
end Go.Proofs.Ytalaolfcdaaaoaa.W
