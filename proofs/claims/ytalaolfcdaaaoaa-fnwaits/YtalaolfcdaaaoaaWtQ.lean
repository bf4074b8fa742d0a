/-
  Waits that are the same: what '!=' of two of them tells.
-/
import Derived.Test.YtalaolfcdaaaoaaWtD
import Derived.Laws.StructEq
namespace Go.Proofs.Ytalaolfcdaaaoaa.W
open Go.ChangeShapes Go.WideShapes Go.ChangeAt Go.RowKit
open Go.Proofs.Ytalaolfcdaaaoaa.M

theorem ret_wi {a b : Int} (h : a = b) : Ending.returned (.int .i64 a) = .returned (.int .i64 b) := by rw [h]
theorem ret_wb {a b : Bool} (h : a = b) : Ending.returned (.bool a) = .returned (.bool b) := by rw [h]
theorem guard_wt : Try.prog.eqGuardType Try.prog.depth 63 = false := by kernel_rfl
def sw1 (x y : Wai) : Bool := x.a == y.a && (x.b == y.b && (x.c == y.c && (x.d == y.d && (x.e == y.e && (x.f == y.f && (x.g == y.g))))))
theorem sw1_iff (x y : Wai) : sw1 x y = true ↔ x = y := by
  constructor
  · intro h
    simp only [sw1, Bool.and_eq_true, beq_iff_eq] at h
    exact Wai.ext' h.1 h.2.1 h.2.2.1 h.2.2.2.1 h.2.2.2.2.1 h.2.2.2.2.2.1 h.2.2.2.2.2.2
  · rintro rfl
    simp [sw1]
set_option maxHeartbeats 4000000 in
set_option maxRecDepth 100000 in
theorem neq_wai (x y : Wai) (w : World) : (binOp .neq 63 (.agg #[.int .i64 x.a, .int .i64 x.b, .int .i64 x.c, .int .i64 x.d, .int .i64 x.e, .int .i64 x.f, .int .i64 x.g]) (.agg #[.int .i64 y.a, .int .i64 y.b, .int .i64 y.c, .int .i64 y.d, .int .i64 y.e, .int .i64 y.f, .int .i64 y.g])).run Try.prog w = .ok (.bool (!sw1 x y)) w := by
  have hg := guard_wt
  by_cases h0 : x.a = y.a
  · by_cases h1 : x.b = y.b
    · by_cases h2 : x.c = y.c
      · by_cases h3 : x.d = y.d
        · by_cases h4 : x.e = y.e
          · by_cases h5 : x.f = y.f
            · by_cases h6 : x.g = y.g
              · rw [show sw1 x y = true by simp [sw1, h0, h1, h2, h3, h4, h5, h6]]
                go_simp
              · rw [show sw1 x y = false by simp [sw1, h6]]
                go_simp
            · rw [show sw1 x y = false by simp [sw1, h5]]
              go_simp
          · rw [show sw1 x y = false by simp [sw1, h4]]
            go_simp
        · rw [show sw1 x y = false by simp [sw1, h3]]
          go_simp
      · rw [show sw1 x y = false by simp [sw1, h2]]
        go_simp
    · rw [show sw1 x y = false by simp [sw1, h1]]
      go_simp
  · rw [show sw1 x y = false by simp [sw1, h0]]
    go_simp
/-- The first k of them are the same. -/
def swTo (cs ds : List Wai) (k : Nat) : Bool := (List.range k).all fun i => sw1 (cs.getD i zJ) (ds.getD i zJ)
def swA (cs ds : List Wai) : Bool := cs.length == ds.length && swTo cs ds cs.length
theorem swTo_succ (cs ds : List Wai) (k : Nat) (h1 : k < cs.length) (h2 : k < ds.length) : swTo cs ds (k + 1) = (swTo cs ds k && sw1 cs[k] ds[k]) := by
  unfold swTo
  rw [List.range_succ, List.all_append]
  simp [List.getD_eq_getElem?_getD, h1, h2]
theorem swTo_no (cs ds : List Wai) (k n : Nat) (hk : k < n) (h : swTo cs ds (k + 1) = false) : swTo cs ds n = false := by
  unfold swTo at *
  rw [List.all_eq_false] at *
  obtain ⟨x, hx, hf⟩ := h
  exact ⟨x, List.mem_range.2 (by have := List.mem_range.1 hx; omega), hf⟩
theorem swA_iff (cs ds : List Wai) : swA cs ds = true ↔ cs = ds := by
  constructor
  · intro h
    simp only [swA, swTo, Bool.and_eq_true, beq_iff_eq, List.all_eq_true, List.mem_range] at h
    refine List.ext_getElem h.1 fun i h1 h2 => ?_
    have := h.2 i h1
    simp only [List.getD_eq_getElem?_getD, List.getElem?_eq_getElem h1, List.getElem?_eq_getElem h2, Option.getD_some] at this
    exact (sw1_iff _ _).1 this
  · rintro rfl
    simp only [swA, swTo, Bool.and_eq_true, beq_iff_eq, List.all_eq_true, List.mem_range, true_and]
    intro i _
    exact (sw1_iff _ _).2 rfl
end Go.Proofs.Ytalaolfcdaaaoaa.W
