/-
  How the exact laws compare, mark and hold what is told of a letter.
-/
import Derived.Test.YtckgjghpfjinfakLetW
namespace Go.Proofs.Ytckgjghpfjinfak.W
open Go.ChangeShapes Go.WideShapes Go.ChangeAt Go.RowKit
open Go.Proofs.Ytckgjghpfjinfak.M

set_option maxRecDepth 100000 in
theorem eqLR (c rk rs rc : Int) (va vb : Value) (l : List Nat) (w : World) (ha : Rd w va l) (hb : Rd w vb l) (hl : l.length ≤ 1048576) :
    Calls Try.prog 23 #[.agg #[.int .i64 c, .int .i64 rk, .int .i64 rs, .int .i64 rc, va], .agg #[.int .i64 c, .int .i64 rk, .int .i64 rs, .int .i64 rc, vb]] w fun e w' => e = .returned (.bool true) ∧ Below w.heap.size w w' := by
  have HA := hid ha
  have HB := hid hb
  obtain ⟨a, ca, rfl, -, -, -⟩ := ha.parts
  obtain ⟨b, cb, rfl, -, -, -⟩ := hb.parts
  clear ha hb
  go_enter Try.func23, Try.ntmps23
  go_wp2_with fail
  refine (eqL rk rs rc _ _ l _ (HA.out.below (below_alloc2 w _ _)) (HB.out.below (below_alloc2 w _ _)) hl).mono ?_
  rintro e w' ⟨rfl, hB⟩
  have BB := hid ((below_alloc2 w _ _).trans (hB.mono (by simp; omega)))
  clear hB
  go_wp2
  go_ret
  exact ⟨rfl, BB.out⟩
set_option maxRecDepth 100000 in
theorem markLo (p q r : Int) (v : Value) (l : List Nat) (k : Nat) (z : Int) (hz : z = (k : Int)) (lo hi : Nat) (w : World) (h : OB w lo hi v l) (hl : l.length ≤ 1048576) (hk : k ≤ 16777216) :
    Calls Try.prog 48 #[.agg #[.int .i64 p, .int .i64 q, .int .i64 r, v], .int .i64 z] w fun e w' => e = .returned (.int .i64 ((k + l.length : Nat) : Int)) ∧ OB w' lo hi v (marks k l.length) ∧ Ins lo hi w w' := by
  have H := hid h
  obtain ⟨a, ca, rfl, -, -, -⟩ := h.rd.parts
  subst hz
  clear h
  go_enter Try.func48, Try.ntmps48
  go_wp2_with fail
  refine (markO _ l k lo hi _ (H.out.below (below_alloc1 w _)) hl hk).mono ?_
  rintro e w' ⟨rfl, hO, hI⟩
  have HO := hid hO
  have HI := hid ((Ins.of_below (below_alloc1 w _)).trans hI)
  clear hO hI
  go_wp2
  go_ret
  exact ⟨rfl, HO.out, HI.out⟩
set_option maxRecDepth 100000 in
theorem heldLo (p q r : Int) (v : Value) (l : List Nat) (k : Nat) (w : World) (h : Rd w v (marks k l.length)) (hl : l.length ≤ 1048576) (hk : k ≤ 16777216) :
    Calls Try.prog 49 #[.agg #[.int .i64 p, .int .i64 q, .int .i64 r, v], .int .i64 (k : Int)] w fun e w' => e = .returned (.int .i64 ((k + l.length : Nat) : Int)) ∧ Below w.heap.size w w' := by
  have H := hid h
  obtain ⟨a, ca, e, -, -, -⟩ := h.parts
  rw [marks_len] at e
  subst e
  clear h
  go_enter Try.func49, Try.ntmps49
  go_wp2_with fail
  refine (heldB _ l.length k _ (H.out.below (below_alloc1 w _)) hl hk).mono ?_
  rintro e w' ⟨rfl, rfl⟩
  obtain ⟨m, hm⟩ : ∃ m : Nat, m = k + l.length := ⟨_, rfl⟩
  rw [← hm]
  replace hm := hid hm
  have h0 : decide ((m : Int) < 0) = false := decide_eq_false (by omega)
  go_wp2
  go_ret
  exact ⟨ret_m (congrArg _ hm.out), below_alloc1 w _⟩
set_option maxRecDepth 100000 in
theorem markLRo (c rk rs rc : Int) (v : Value) (l : List Nat) (k : Nat) (z : Int) (hz : z = (k : Int)) (lo hi : Nat) (w : World) (h : OB w lo hi v l) (hl : l.length ≤ 1048576) (hk : k ≤ 16777216) :
    Calls Try.prog 26 #[.agg #[.int .i64 c, .int .i64 rk, .int .i64 rs, .int .i64 rc, v], .int .i64 z] w fun e w' => e = .returned (.int .i64 ((k + l.length : Nat) : Int)) ∧ OB w' lo hi v (marks k l.length) ∧ Ins lo hi w w' := by
  have H := hid h
  obtain ⟨a, ca, rfl, -, -, -⟩ := h.rd.parts
  subst hz
  clear h
  go_enter Try.func26, Try.ntmps26
  go_wp2_with fail
  refine (markLo rk rs rc _ l k _ rfl lo hi _ (H.out.below (below_alloc1 w _)) hl hk).mono ?_
  rintro e w' ⟨rfl, hO, hI⟩
  have HO := hid hO
  have HI := hid ((Ins.of_below (below_alloc1 w _)).trans hI)
  clear hO hI
  go_wp2
  go_ret
  exact ⟨rfl, HO.out, HI.out⟩
set_option maxRecDepth 100000 in
theorem heldLRo (c rk rs rc : Int) (v : Value) (l : List Nat) (k : Nat) (z : Int) (hz : z = (k : Int)) (w : World) (h : Rd w v (marks k l.length)) (hl : l.length ≤ 1048576) (hk : k ≤ 16777216) :
    Calls Try.prog 27 #[.agg #[.int .i64 c, .int .i64 rk, .int .i64 rs, .int .i64 rc, v], .int .i64 z] w fun e w' => e = .returned (.int .i64 ((k + l.length : Nat) : Int)) ∧ Below w.heap.size w w' := by
  have H := hid h
  obtain ⟨a, ca, e, -, -, -⟩ := h.parts
  rw [marks_len] at e
  subst e
  subst hz
  clear h
  go_enter Try.func27, Try.ntmps27
  go_wp2_with fail
  refine (heldLo rk rs rc _ l k _ (H.out.below (below_alloc1 w _)) hl hk).mono ?_
  rintro e w' ⟨rfl, hB⟩
  have BB := hid ((below_alloc1 w _).trans (hB.mono (by simp)))
  clear hB
  obtain ⟨m, hm⟩ : ∃ m : Nat, m = k + l.length := ⟨_, rfl⟩
  rw [← hm]
  replace hm := hid hm
  have h0 : decide ((m : Int) < 0) = false := decide_eq_false (by omega)
  go_wp2
  go_ret
  exact ⟨ret_m (congrArg _ hm.out), BB.out⟩
end Go.Proofs.Ytckgjghpfjinfak.W
