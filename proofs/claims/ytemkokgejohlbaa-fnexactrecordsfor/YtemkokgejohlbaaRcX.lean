/-
  How the exact laws compare, mark and hold what is told in records.
-/
import Derived.Test.YtemkokgejohlbaaRcK
namespace Go.Proofs.Ytemkokgejohlbaa.W
open Go.ChangeShapes Go.WideShapes Go.ChangeAt Go.RowKit
open Go.Proofs.Ytemkokgejohlbaa.M

set_option maxRecDepth 100000 in
theorem eqDR (c : Int) (va vb : Value) (l : List Rcd) (w : World) (ha : RdD w va l) (hb : RdD w vb l) (hl : l.length ≤ 1048576) :
    Calls Try.prog 8 #[.agg #[.int .i64 c, va], .agg #[.int .i64 c, vb]] w fun e w' => e = .returned (.bool true) ∧ Below w.heap.size w w' := by
  obtain ⟨a, capa, rfl, _, _, _⟩ := ha.parts
  obtain ⟨b, capb, rfl, _, _, _⟩ := hb.parts
  go_enter Try.func8, Try.ntmps8
  go_wp2_with fail
  refine (eqDS _ _ l _ (ha.below (below_alloc2 w _ _)) (hb.below (below_alloc2 w _ _)) hl).mono ?_
  rintro e w' ⟨rfl, hB⟩
  go_wp2
  go_ret
  exact ⟨rfl, (below_alloc2 w _ _).trans (hB.mono (by simp; omega))⟩

set_option maxRecDepth 100000 in
theorem heldDR (c : Int) (v : Value) (n k : Nat) (w : World) (h : RdD w v (marksD k n)) (hl : n ≤ 1048576) (hk : k ≤ 16777216) :
    Calls Try.prog 12 #[.agg #[.int .i64 c, v], .int .i64 (k : Int)] w fun e w' => e = .returned (.int .i64 ((k + n * 3 : Nat) : Int)) ∧ Below w.heap.size w w' := by
  obtain ⟨a, cap, rfl, _, _, _⟩ := h.parts
  go_enter Try.func12, Try.ntmps12
  go_wp2_with fail
  refine (heldD _ n k _ (h.below (below_alloc1 w _)) hl hk).mono ?_
  rintro e w' ⟨rfl, rfl⟩
  have h0 : ¬ ((k : Int) + n * 3 < 0) := by omega
  go_wp2
  go_ret
  exact ⟨rfl, below_alloc1 w _⟩
set_option maxRecDepth 100000 in
theorem markDRo (c : Int) (v : Value) (l : List Rcd) (k : Nat) (z : Int) (hz : z = (k : Int)) (lo hi : Nat) (w : World) (h : OD w lo hi v l) (hl : l.length ≤ 1048576) (hk : k ≤ 16777216) :
    Calls Try.prog 11 #[.agg #[.int .i64 c, v], .int .i64 z] w fun e w' => e = .returned (.int .i64 ((k + l.length * 3 : Nat) : Int)) ∧ OD w' lo hi v (marksD k l.length) ∧ Ins lo hi w w' := by
  have H := hid h
  obtain ⟨a, ca, rfl, -, -, -⟩ := h.rd.parts
  subst hz
  clear h
  go_enter Try.func11, Try.ntmps11
  go_wp2_with fail
  refine (markDo _ l k _ rfl lo hi _ (H.out.below (below_alloc1 w _)) hl hk).mono ?_
  rintro e w' ⟨rfl, hO, hI⟩
  have HO := hid hO
  have HI := hid ((Ins.of_below (below_alloc1 w _)).trans hI)
  clear hO hI
  go_wp2
  go_ret
  exact ⟨rfl, HO.out, HI.out⟩
theorem heldDRo (c : Int) (v : Value) (l : List Rcd) (k : Nat) (z : Int) (hz : z = (k : Int)) (w : World) (h : RdD w v (marksD k l.length)) (hl : l.length ≤ 1048576) (hk : k ≤ 16777216) :
    Calls Try.prog 12 #[.agg #[.int .i64 c, v], .int .i64 z] w fun e w' => e = .returned (.int .i64 ((k + l.length * 3 : Nat) : Int)) ∧ Below w.heap.size w w' := by
  subst hz
  exact heldDR c v l.length k w h hl hk
end Go.Proofs.Ytemkokgejohlbaa.W
