/-
  The laws' own helpers over slices of bytes: copies, comparisons, marks.
-/
import Derived.Test.YtifgcffifffdnamSlB
namespace Go.Proofs.Ytifgcffifffdnam.W
open Go.ChangeShapes Go.WideShapes Go.ChangeAt Go.RowKit
open Go.Proofs.Ytifgcffifffdnam.M

set_option maxRecDepth 100000 in
theorem eqBR (c : Int) (va vb : Value) (l : List Nat) (w : World) (ha : Rd w va l) (hb : Rd w vb l) (hl : l.length ≤ 1048576) :
    Calls Try.prog 24 #[.agg #[.int .i64 c, va], .agg #[.int .i64 c, vb]] w fun e w' => e = .returned (.bool true) ∧ Below w.heap.size w w' := by
  obtain ⟨a, capa, rfl, _, _, _⟩ := ha.parts
  obtain ⟨b, capb, rfl, _, _, _⟩ := hb.parts
  go_enter Try.func24, Try.ntmps24
  go_wp2_with fail
  refine (eqB _ _ l _ (ha.below (below_alloc2 w _ _)) (hb.below (below_alloc2 w _ _)) hl).mono ?_
  rintro e w' ⟨rfl, hB⟩
  go_wp2
  go_ret
  exact ⟨rfl, (below_alloc2 w _ _).trans (hB.mono (by simp; omega))⟩

set_option maxRecDepth 100000 in
theorem markBR (c : Int) (v : Value) (l : List Nat) (k base : Nat) (w : World) (h : Own w base v l) (hl : l.length ≤ 1048576) (hk : k ≤ 16777216) :
    Calls Try.prog 26 #[.agg #[.int .i64 c, v], .int .i64 (k : Int)] w fun e w' => e = .returned (.int .i64 ((k + l.length : Nat) : Int)) ∧ Own w' base v (marks k l.length) ∧ w.grownBy w' v.ownBlock := by
  obtain ⟨a, cap, rfl, _, _, _⟩ := h.rd.parts
  go_enter Try.func26, Try.ntmps26
  go_wp2_with fail
  refine (markB _ l k base _ (h.below (below_alloc1 w _)) hl hk).mono ?_
  rintro e w' ⟨rfl, hO, hG⟩
  go_wp2
  go_ret
  exact ⟨rfl, hO, grown_trans (World.grownBy_alloc _ _ _) hG⟩

set_option maxRecDepth 100000 in
theorem heldBR (c : Int) (v : Value) (n k : Nat) (w : World) (h : Rd w v (marks k n)) (hl : n ≤ 1048576) (hk : k ≤ 16777216) :
    Calls Try.prog 27 #[.agg #[.int .i64 c, v], .int .i64 (k : Int)] w fun e w' => e = .returned (.int .i64 ((k + n : Nat) : Int)) ∧ Below w.heap.size w w' := by
  obtain ⟨a, cap, rfl, _, _, _⟩ := h.parts
  go_enter Try.func27, Try.ntmps27
  go_wp2_with fail
  refine (heldB _ n k _ (h.below (below_alloc1 w _)) hl hk).mono ?_
  rintro e w' ⟨rfl, rfl⟩
  have h0 : ¬ ((k : Int) + n < 0) := by omega
  go_wp2
  go_ret
  exact ⟨rfl, below_alloc1 w _⟩

theorem markBR1 (c : Int) (v : Value) (l : List Nat) (base : Nat) (w : World) (h : Own w base v l) (hl : l.length ≤ 1048576) :
    Calls Try.prog 26 #[.agg #[.int .i64 c, v], .int .i64 1] w fun e w' => e = .returned (.int .i64 ((1 + l.length : Nat) : Int)) ∧ Own w' base v (marks 1 l.length) ∧ w.grownBy w' v.ownBlock := by
  have h := markBR c v l 1 base w h hl (by omega)
  rw [one_cast] at h
  exact h
theorem heldBR1 (c : Int) (v : Value) (n : Nat) (w : World) (h : Rd w v (marks 1 n)) (hl : n ≤ 1048576) :
    Calls Try.prog 27 #[.agg #[.int .i64 c, v], .int .i64 1] w fun e w' => e = .returned (.int .i64 ((1 + n : Nat) : Int)) ∧ Below w.heap.size w w' := by
  have h := heldBR c v n 1 w h hl (by omega)
  rw [one_cast] at h
  exact h
end Go.Proofs.Ytifgcffifffdnam.W

