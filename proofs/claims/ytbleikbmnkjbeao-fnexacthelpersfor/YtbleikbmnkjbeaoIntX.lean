/-
  How the exact laws compare, mark and hold what is told in numbers.
-/
import Derived.Test.YtbleikbmnkjbeaoMkZ
namespace Go.Proofs.Ytbleikbmnkjbeao.W
open Go.ChangeShapes Go.WideShapes Go.ChangeAt Go.RowKit
open Go.Proofs.Ytbleikbmnkjbeao.M

set_option maxRecDepth 100000 in
theorem eqIR (c : Int) (va vb : Value) (l : List Int) (w : World) (ha : RdZ w va l) (hb : RdZ w vb l) (hl : l.length ≤ 1048576) :
    Calls Try.prog 22 #[.agg #[.int .i64 c, va], .agg #[.int .i64 c, vb]] w fun e w' => e = .returned (.bool true) ∧ Below w.heap.size w w' := by
  obtain ⟨a, capa, rfl, _, _, _⟩ := ha.parts
  obtain ⟨b, capb, rfl, _, _, _⟩ := hb.parts
  go_enter Try.func22, Try.ntmps22
  go_wp2_with fail
  refine (eqZ _ _ l _ (ha.below (below_alloc2 w _ _)) (hb.below (below_alloc2 w _ _)) hl).mono ?_
  rintro e w' ⟨rfl, hB⟩
  go_wp2
  go_ret
  exact ⟨rfl, (below_alloc2 w _ _).trans (hB.mono (by simp; omega))⟩

set_option maxRecDepth 100000 in
theorem heldIR (c : Int) (v : Value) (n k : Nat) (w : World) (h : RdZ w v (marksZ k n)) (hl : n ≤ 1048576) (hk : k ≤ 16777216) :
    Calls Try.prog 24 #[.agg #[.int .i64 c, v], .int .i64 (k : Int)] w fun e w' => e = .returned (.int .i64 ((k + n : Nat) : Int)) ∧ Below w.heap.size w w' := by
  obtain ⟨a, cap, rfl, _, _, _⟩ := h.parts
  go_enter Try.func24, Try.ntmps24
  go_wp2_with fail
  refine (heldZ _ n k _ (h.below (below_alloc1 w _)) hl hk).mono ?_
  rintro e w' ⟨rfl, rfl⟩
  have h0 : ¬ ((k : Int) + n < 0) := by omega
  go_wp2
  go_ret
  exact ⟨rfl, below_alloc1 w _⟩
set_option maxRecDepth 100000 in
theorem markIRo (c : Int) (v : Value) (l : List Int) (k : Nat) (z : Int) (hz : z = (k : Int)) (lo hi : Nat) (w : World) (h : OZ w lo hi v l) (hl : l.length ≤ 1048576) (hk : k ≤ 16777216) :
    Calls Try.prog 23 #[.agg #[.int .i64 c, v], .int .i64 z] w fun e w' => e = .returned (.int .i64 ((k + l.length : Nat) : Int)) ∧ OZ w' lo hi v (marksZ k l.length) ∧ Ins lo hi w w' := by
  have H := hid h
  obtain ⟨a, ca, rfl, -, -, -⟩ := h.rd.parts
  subst hz
  clear h
  go_enter Try.func23, Try.ntmps23
  go_wp2_with fail
  refine (markOZ _ l k lo hi _ (H.out.below (below_alloc1 w _)) hl hk).mono ?_
  rintro e w' ⟨rfl, hO, hI⟩
  have HO := hid hO
  have HI := hid ((Ins.of_below (below_alloc1 w _)).trans hI)
  clear hO hI
  go_wp2
  go_ret
  exact ⟨rfl, HO.out, HI.out⟩
theorem heldIRo (c : Int) (v : Value) (l : List Int) (k : Nat) (z : Int) (hz : z = (k : Int)) (w : World) (h : RdZ w v (marksZ k l.length)) (hl : l.length ≤ 1048576) (hk : k ≤ 16777216) :
    Calls Try.prog 24 #[.agg #[.int .i64 c, v], .int .i64 z] w fun e w' => e = .returned (.int .i64 ((k + l.length : Nat) : Int)) ∧ Below w.heap.size w w' := by
  subst hz
  exact heldIR c v l.length k w h hl hk
end Go.Proofs.Ytbleikbmnkjbeao.W
