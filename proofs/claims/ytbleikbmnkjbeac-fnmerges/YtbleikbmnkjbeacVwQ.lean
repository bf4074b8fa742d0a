/-
  Claims that are the same: what '!=' of two of them tells.
-/
import Derived.Test.YtbleikbmnkjbeacVwS
import Derived.Laws.StructEq
namespace Go.Proofs.Ytbleikbmnkjbeac.W
open Go.ChangeShapes Go.WideShapes Go.ChangeAt Go.RowKit
open Go.Proofs.Ytbleikbmnkjbeac.M

theorem guard_cl : Try.prog.eqGuardType Try.prog.depth 45 = false := by kernel_rfl
def sc1 (a b : Clm) : Bool := a.n == b.n && (a.i == b.i && (a.s == b.s && a.m == b.m))
theorem sc1_iff (a b : Clm) : sc1 a b = true ↔ a = b := by
  constructor
  · intro h
    simp only [sc1, Bool.and_eq_true, beq_iff_eq] at h
    exact Clm.ext' h.1 h.2.1 h.2.2.1 h.2.2.2
  · rintro rfl
    simp [sc1]
set_option maxHeartbeats 2000000 in
set_option maxRecDepth 100000 in
theorem neq_clm (a b : Clm) (w : World) : (binOp .neq 45 (.agg #[.int .i64 a.n, .int .i64 a.i, .int .i64 a.s, .int .i64 a.m]) (.agg #[.int .i64 b.n, .int .i64 b.i, .int .i64 b.s, .int .i64 b.m])).run Try.prog w = .ok (.bool (!sc1 a b)) w := by
  have hg := guard_cl
  by_cases h1 : a.n = b.n
  · by_cases h2 : a.i = b.i
    · by_cases h3 : a.s = b.s
      · by_cases h4 : a.m = b.m
        · rw [show sc1 a b = true by simp [sc1, h1, h2, h3, h4]]
          go_simp
        · rw [show sc1 a b = false by simp [sc1, h4]]
          go_simp
      · rw [show sc1 a b = false by simp [sc1, h3]]
        go_simp
    · rw [show sc1 a b = false by simp [sc1, h2]]
      go_simp
  · rw [show sc1 a b = false by simp [sc1, h1]]
    go_simp
/-- The first k of them are the same. -/
def scTo (cs ds : List Clm) (k : Nat) : Bool := (List.range k).all fun i => sc1 (cs.getD i zC) (ds.getD i zC)
def scA (cs ds : List Clm) : Bool := cs.length == ds.length && scTo cs ds cs.length
theorem scTo_succ (cs ds : List Clm) (k : Nat) (h1 : k < cs.length) (h2 : k < ds.length) : scTo cs ds (k + 1) = (scTo cs ds k && sc1 cs[k] ds[k]) := by
  unfold scTo
  rw [List.range_succ, List.all_append]
  simp [List.getD_eq_getElem?_getD, h1, h2]
theorem scTo_no (cs ds : List Clm) (k n : Nat) (hk : k < n) (h : scTo cs ds (k + 1) = false) : scTo cs ds n = false := by
  unfold scTo at *
  rw [List.all_eq_false] at *
  obtain ⟨x, hx, hf⟩ := h
  exact ⟨x, List.mem_range.2 (by have := List.mem_range.1 hx; omega), hf⟩
theorem scA_iff (cs ds : List Clm) : scA cs ds = true ↔ cs = ds := by
  constructor
  · intro h
    simp only [scA, scTo, Bool.and_eq_true, beq_iff_eq, List.all_eq_true, List.mem_range] at h
    refine List.ext_getElem h.1 fun i h1 h2 => ?_
    have := h.2 i h1
    simp only [List.getD_eq_getElem?_getD, List.getElem?_eq_getElem h1, List.getElem?_eq_getElem h2, Option.getD_some] at this
    exact (sc1_iff _ _).1 this
  · rintro rfl
    simp only [scA, scTo, Bool.and_eq_true, beq_iff_eq, List.all_eq_true, List.mem_range, true_and]
    intro i _
    exact (sc1_iff _ _).2 rfl
end Go.Proofs.Ytbleikbmnkjbeac.W
