/-
  How the exact laws compare, mark and hold windows and what is told of them.
-/
import Derived.Test.YtmamdbmkjipahalWinW
import Derived.Test.YtmamdbmkjipahalMkZ
namespace Go.Proofs.Ytmamdbmkjipahal.W
open Go.ChangeShapes Go.WideShapes Go.ChangeAt Go.RowKit
open Go.Proofs.Ytmamdbmkjipahal.M

set_option maxRecDepth 100000 in
theorem markWo (p : Int) (v : Value) (l : List Int) (k : Nat) (z : Int) (hz : z = (k : Int)) (lo hi : Nat) (w : World) (h : OZ w lo hi v l) (hl : l.length ≤ 1048576) (hk : k ≤ 16777216) :
    Calls Try.prog 21 #[.agg #[.int .i64 p, v], .int .i64 z] w fun e w' => e = .returned (.int .i64 ((k + l.length : Nat) : Int)) ∧ OZ w' lo hi v (marksZ k l.length) ∧ Ins lo hi w w' := by
  have H := hid h
  obtain ⟨a, ca, rfl, -, -, -⟩ := h.rd.parts
  subst hz
  clear h
  go_enter Try.func21, Try.ntmps21
  go_wp2_with fail
  refine (markOZ _ l k lo hi _ (H.out.below (below_alloc1 w _)) hl hk).mono ?_
  rintro e w' ⟨rfl, hO, hI⟩
  have HO := hid hO
  have HI := hid ((Ins.of_below (below_alloc1 w _)).trans hI)
  clear hO hI
  go_wp2
  go_ret
  exact ⟨rfl, HO.out, HI.out⟩
set_option maxRecDepth 100000 in
theorem heldWo (p : Int) (v : Value) (l : List Int) (k : Nat) (z : Int) (hz : z = (k : Int)) (w : World) (h : RdZ w v (marksZ k l.length)) (hl : l.length ≤ 1048576) (hk : k ≤ 16777216) :
    Calls Try.prog 22 #[.agg #[.int .i64 p, v], .int .i64 z] w fun e w' => e = .returned (.int .i64 ((k + l.length : Nat) : Int)) ∧ Below w.heap.size w w' := by
  have H := hid h
  obtain ⟨a, ca, e, -, -, -⟩ := h.parts
  rw [marksZ_len] at e
  subst e
  subst hz
  clear h
  go_enter Try.func22, Try.ntmps22
  go_wp2_with fail
  refine (heldZ _ l.length k _ (H.out.below (below_alloc1 w _)) hl hk).mono ?_
  rintro e w' ⟨rfl, hB⟩
  have BB := hid (show Below w.heap.size w w' by rw [hB]; exact below_alloc1 w _)
  subst hB
  obtain ⟨m, hm⟩ : ∃ m : Nat, m = k + l.length := ⟨_, rfl⟩
  rw [← hm]
  replace hm := hid hm
  have h0 : decide ((m : Int) < 0) = false := decide_eq_false (by omega)
  go_wp2
  go_ret
  exact ⟨congrArg (fun z : Nat => Ending.returned (.int .i64 (z : Int))) hm.out, BB.out⟩
set_option maxRecDepth 100000 in
theorem eqWR (c rk : Int) (va vb : Value) (l : List Int) (w : World) (ha : RdZ w va l) (hb : RdZ w vb l) (hl : l.length ≤ 1048576) :
    Calls Try.prog 25 #[.agg #[.int .i64 c, .int .i64 rk, va], .agg #[.int .i64 c, .int .i64 rk, vb]] w fun e w' => e = .returned (.bool true) ∧ Below w.heap.size w w' := by
  have HA := hid ha
  have HB := hid hb
  obtain ⟨a, ca, rfl, -, -, -⟩ := ha.parts
  obtain ⟨b, cb, rfl, -, -, -⟩ := hb.parts
  clear ha hb
  go_enter Try.func25, Try.ntmps25
  go_wp2_with fail
  refine (eqW rk _ _ l _ (HA.out.below (below_alloc2 w _ _)) (HB.out.below (below_alloc2 w _ _)) hl).mono ?_
  rintro e w' ⟨rfl, hB⟩
  have BB := hid ((below_alloc2 w _ _).trans (hB.mono (by simp; omega)))
  clear hB
  go_wp2
  go_ret
  exact ⟨rfl, BB.out⟩
set_option maxRecDepth 100000 in
theorem markWRo (c rk : Int) (v : Value) (l : List Int) (k : Nat) (z : Int) (hz : z = (k : Int)) (lo hi : Nat) (w : World) (h : OZ w lo hi v l) (hl : l.length ≤ 1048576) (hk : k ≤ 16777216) :
    Calls Try.prog 26 #[.agg #[.int .i64 c, .int .i64 rk, v], .int .i64 z] w fun e w' => e = .returned (.int .i64 ((k + l.length : Nat) : Int)) ∧ OZ w' lo hi v (marksZ k l.length) ∧ Ins lo hi w w' := by
  have H := hid h
  obtain ⟨a, ca, rfl, -, -, -⟩ := h.rd.parts
  subst hz
  clear h
  go_enter Try.func26, Try.ntmps26
  go_wp2_with fail
  refine (markWo rk _ l k _ rfl lo hi _ (H.out.below (below_alloc1 w _)) hl hk).mono ?_
  rintro e w' ⟨rfl, hO, hI⟩
  have HO := hid hO
  have HI := hid ((Ins.of_below (below_alloc1 w _)).trans hI)
  clear hO hI
  go_wp2
  go_ret
  exact ⟨rfl, HO.out, HI.out⟩
set_option maxRecDepth 100000 in
theorem heldWRo (c rk : Int) (v : Value) (l : List Int) (k : Nat) (z : Int) (hz : z = (k : Int)) (w : World) (h : RdZ w v (marksZ k l.length)) (hl : l.length ≤ 1048576) (hk : k ≤ 16777216) :
    Calls Try.prog 27 #[.agg #[.int .i64 c, .int .i64 rk, v], .int .i64 z] w fun e w' => e = .returned (.int .i64 ((k + l.length : Nat) : Int)) ∧ Below w.heap.size w w' := by
  have H := hid h
  obtain ⟨a, ca, e, -, -, -⟩ := h.parts
  rw [marksZ_len] at e
  subst e
  subst hz
  clear h
  go_enter Try.func27, Try.ntmps27
  go_wp2_with fail
  refine (heldWo rk _ l k _ rfl _ (H.out.below (below_alloc1 w _)) hl hk).mono ?_
  rintro e w' ⟨rfl, hB⟩
  have BB := hid ((below_alloc1 w _).trans (hB.mono (by simp)))
  clear hB
  obtain ⟨m, hm⟩ : ∃ m : Nat, m = k + l.length := ⟨_, rfl⟩
  rw [← hm]
  replace hm := hid hm
  have h0 : decide ((m : Int) < 0) = false := decide_eq_false (by omega)
  go_wp2
  go_ret
  exact ⟨congrArg (fun z : Nat => Ending.returned (.int .i64 (z : Int))) hm.out, BB.out⟩
end Go.Proofs.Ytmamdbmkjipahal.W
