/-
  Records that are the same: what '!=' of two of them tells.
-/
import Derived.Test.YtlbkhjmenglefaaRcD
import Derived.Laws.StructEq
namespace Go.Proofs.Ytlbkhjmenglefaa.W
open Go.ChangeShapes Go.WideShapes Go.ChangeAt Go.RowKit
open Go.Proofs.Ytlbkhjmenglefaa.M

theorem ret_di {a b : Int} (h : a = b) : Ending.returned (.int .i64 a) = .returned (.int .i64 b) := by rw [h]
theorem ret_db {a b : Bool} (h : a = b) : Ending.returned (.bool a) = .returned (.bool b) := by rw [h]
theorem guard_rc : Try.prog.eqGuardType Try.prog.depth 29 = false := by kernel_rfl
def sr1 (x y : Rcd) : Bool := x.a == y.a && (x.b == y.b && (x.c == y.c))
theorem sr1_iff (x y : Rcd) : sr1 x y = true ↔ x = y := by
  constructor
  · intro h
    simp only [sr1, Bool.and_eq_true, beq_iff_eq] at h
    exact Rcd.ext' h.1 h.2.1 h.2.2
  · rintro rfl
    simp [sr1]
set_option maxHeartbeats 4000000 in
set_option maxRecDepth 100000 in
theorem neq_rcd (x y : Rcd) (w : World) : (binOp .neq 29 (.agg #[.int .i64 x.a, .int .i64 x.b, .int .i64 x.c]) (.agg #[.int .i64 y.a, .int .i64 y.b, .int .i64 y.c])).run Try.prog w = .ok (.bool (!sr1 x y)) w := by
  have hg := guard_rc
  by_cases h0 : x.a = y.a
  · by_cases h1 : x.b = y.b
    · by_cases h2 : x.c = y.c
      · rw [show sr1 x y = true by simp [sr1, h0, h1, h2]]
        go_simp
      · rw [show sr1 x y = false by simp [sr1, h2]]
        go_simp
    · rw [show sr1 x y = false by simp [sr1, h1]]
      go_simp
  · rw [show sr1 x y = false by simp [sr1, h0]]
    go_simp
/-- The first k of them are the same. -/
def srTo (cs ds : List Rcd) (k : Nat) : Bool := (List.range k).all fun i => sr1 (cs.getD i zD) (ds.getD i zD)
def srA (cs ds : List Rcd) : Bool := cs.length == ds.length && srTo cs ds cs.length
theorem srTo_succ (cs ds : List Rcd) (k : Nat) (h1 : k < cs.length) (h2 : k < ds.length) : srTo cs ds (k + 1) = (srTo cs ds k && sr1 cs[k] ds[k]) := by
  unfold srTo
  rw [List.range_succ, List.all_append]
  simp [List.getD_eq_getElem?_getD, h1, h2]
theorem srTo_no (cs ds : List Rcd) (k n : Nat) (hk : k < n) (h : srTo cs ds (k + 1) = false) : srTo cs ds n = false := by
  unfold srTo at *
  rw [List.all_eq_false] at *
  obtain ⟨x, hx, hf⟩ := h
  exact ⟨x, List.mem_range.2 (by have := List.mem_range.1 hx; omega), hf⟩
theorem srA_iff (cs ds : List Rcd) : srA cs ds = true ↔ cs = ds := by
  constructor
  · intro h
    simp only [srA, srTo, Bool.and_eq_true, beq_iff_eq, List.all_eq_true, List.mem_range] at h
    refine List.ext_getElem h.1 fun i h1 h2 => ?_
    have := h.2 i h1
    simp only [List.getD_eq_getElem?_getD, List.getElem?_eq_getElem h1, List.getElem?_eq_getElem h2, Option.getD_some] at this
    exact (sr1_iff _ _).1 this
  · rintro rfl
    simp only [srA, srTo, Bool.and_eq_true, beq_iff_eq, List.all_eq_true, List.mem_range, true_and]
    intro i _
    exact (sr1_iff _ _).2 rfl
end Go.Proofs.Ytlbkhjmenglefaa.W
