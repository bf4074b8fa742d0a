/-
  How the exact laws compare, mark and hold what is told of a key.
-/
import Derived.Test.YtckgjghpfjinfajEqR
import Derived.Test.YtckgjghpfjinfajMkB
import Derived.Test.YtckgjghpfjinfajToR
namespace Go.Proofs.Ytckgjghpfjinfaj.W
open Go.ChangeShapes Go.WideShapes Go.ChangeAt Go.RowKit
open Go.Proofs.Ytckgjghpfjinfaj.M

set_option maxRecDepth 100000 in
theorem markKo (p : Int) (v : Value) (l : List Nat) (k : Nat) (z : Int) (hz : z = (k : Int)) (lo hi : Nat) (w : World) (h : OB w lo hi v l) (hl : l.length ≤ 1048576) (hk : k ≤ 16777216) :
    Calls Try.prog 24 #[.agg #[.int .i64 p, v], .int .i64 z] w fun e w' => e = .returned (.int .i64 ((k + l.length : Nat) : Int)) ∧ OB w' lo hi v (marks k l.length) ∧ Ins lo hi w w' := by
  have H := hid h
  obtain ⟨a, ca, rfl, -, -, -⟩ := h.rd.parts
  subst hz
  clear h
  go_enter Try.func24, Try.ntmps24
  go_wp2_with fail
  refine (markO _ l k lo hi _ (H.out.below (below_alloc1 w _)) hl hk).mono ?_
  rintro e w' ⟨rfl, hO, hI⟩
  have HO := hid hO
  have HI := hid ((Ins.of_below (below_alloc1 w _)).trans hI)
  clear hO hI
  go_wp2
  go_ret
  exact ⟨rfl, HO.out, HI.out⟩
set_option maxRecDepth 100000 in
theorem heldKo (p : Int) (v : Value) (l : List Nat) (k : Nat) (z : Int) (hz : z = (k : Int)) (w : World) (h : Rd w v (marks k l.length)) (hl : l.length ≤ 1048576) (hk : k ≤ 16777216) :
    Calls Try.prog 44 #[.agg #[.int .i64 p, v], .int .i64 z] w fun e w' => e = .returned (.int .i64 ((k + l.length : Nat) : Int)) ∧ Below w.heap.size w w' := by
  have H := hid h
  obtain ⟨a, ca, e, -, -, -⟩ := h.parts
  rw [marks_len] at e
  subst e
  subst hz
  clear h
  go_enter Try.func44, Try.ntmps44
  go_wp2_with fail
  refine (heldB _ l.length k _ (H.out.below (below_alloc1 w _)) hl hk).mono ?_
  rintro e w' ⟨rfl, hB⟩
  have BB := hid (show Below w.heap.size w w' by rw [hB]; exact below_alloc1 w _)
  subst hB
  obtain ⟨m, hm⟩ : ∃ m : Nat, m = k + l.length := ⟨_, rfl⟩
  rw [← hm]
  replace hm := hid hm
  have h0 : decide ((m : Int) < 0) = false := decide_eq_false (by omega)
  go_wp2
  go_ret
  exact ⟨congrArg (fun z : Nat => Ending.returned (.int .i64 (z : Int))) hm.out, BB.out⟩
set_option maxRecDepth 100000 in
theorem eqKR (c rk : Int) (va vb : Value) (l : List Nat) (w : World) (ha : Rd w va l) (hb : Rd w vb l) (hl : l.length ≤ 1048576) :
    Calls Try.prog 13 #[.agg #[.int .i64 c, .int .i64 rk, va], .agg #[.int .i64 c, .int .i64 rk, vb]] w fun e w' => e = .returned (.bool true) ∧ Below w.heap.size w w' := by
  have HA := hid ha
  have HB := hid hb
  obtain ⟨a, ca, rfl, -, -, -⟩ := ha.parts
  obtain ⟨b, cb, rfl, -, -, -⟩ := hb.parts
  clear ha hb
  go_enter Try.func13, Try.ntmps13
  go_wp2_with fail
  refine (eqK rk _ _ l _ (HA.out.below (below_alloc2 w _ _)) (HB.out.below (below_alloc2 w _ _)) hl).mono ?_
  rintro e w' ⟨rfl, hB⟩
  have BB := hid ((below_alloc2 w _ _).trans (hB.mono (by simp; omega)))
  clear hB
  go_wp2
  go_ret
  exact ⟨rfl, BB.out⟩
set_option maxRecDepth 100000 in
theorem markKRo (c rk : Int) (v : Value) (l : List Nat) (k : Nat) (z : Int) (hz : z = (k : Int)) (lo hi : Nat) (w : World) (h : OB w lo hi v l) (hl : l.length ≤ 1048576) (hk : k ≤ 16777216) :
    Calls Try.prog 16 #[.agg #[.int .i64 c, .int .i64 rk, v], .int .i64 z] w fun e w' => e = .returned (.int .i64 ((k + l.length : Nat) : Int)) ∧ OB w' lo hi v (marks k l.length) ∧ Ins lo hi w w' := by
  have H := hid h
  obtain ⟨a, ca, rfl, -, -, -⟩ := h.rd.parts
  subst hz
  clear h
  go_enter Try.func16, Try.ntmps16
  go_wp2_with fail
  refine (markKo rk _ l k _ rfl lo hi _ (H.out.below (below_alloc1 w _)) hl hk).mono ?_
  rintro e w' ⟨rfl, hO, hI⟩
  have HO := hid hO
  have HI := hid ((Ins.of_below (below_alloc1 w _)).trans hI)
  clear hO hI
  go_wp2
  go_ret
  exact ⟨rfl, HO.out, HI.out⟩
set_option maxRecDepth 100000 in
theorem heldKRo (c rk : Int) (v : Value) (l : List Nat) (k : Nat) (z : Int) (hz : z = (k : Int)) (w : World) (h : Rd w v (marks k l.length)) (hl : l.length ≤ 1048576) (hk : k ≤ 16777216) :
    Calls Try.prog 17 #[.agg #[.int .i64 c, .int .i64 rk, v], .int .i64 z] w fun e w' => e = .returned (.int .i64 ((k + l.length : Nat) : Int)) ∧ Below w.heap.size w w' := by
  have H := hid h
  obtain ⟨a, ca, e, -, -, -⟩ := h.parts
  rw [marks_len] at e
  subst e
  subst hz
  clear h
  go_enter Try.func17, Try.ntmps17
  go_wp2_with fail
  refine (heldKo rk _ l k _ rfl _ (H.out.below (below_alloc1 w _)) hl hk).mono ?_
  rintro e w' ⟨rfl, hB⟩
  have BB := hid ((below_alloc1 w _).trans (hB.mono (by simp)))
  clear hB
  obtain ⟨m, hm⟩ : ∃ m : Nat, m = k + l.length := ⟨_, rfl⟩
  rw [← hm]
  replace hm := hid hm
  have h0 : decide ((m : Int) < 0) = false := decide_eq_false (by omega)
  go_wp2
  go_ret
  exact ⟨congrArg (fun z : Nat => Ending.returned (.int .i64 (z : Int))) hm.out, BB.out⟩
theorem toKo (p : Int) (v : Value) (l : List Nat) (w : World) (h : Rd w v l) (hl : l.length ≤ 1048576) :
    Calls Try.prog 20 #[.agg #[.int .i64 p, v]] w fun e w' => ∃ g, e = .returned (.agg #[.int .i64 p, .slice (some ⟨g, 0, none⟩) l.length l.length]) ∧ OB w' w.heap.size w'.heap.size (.slice (some ⟨g, 0, none⟩) l.length l.length) l ∧ Below w.heap.size w w' :=
  (toK p v l w h hl).mono fun _ _ ⟨g, he, hO, hB⟩ => ⟨g, he, OB.of hO.x, hB⟩
end Go.Proofs.Ytckgjghpfjinfaj.W
