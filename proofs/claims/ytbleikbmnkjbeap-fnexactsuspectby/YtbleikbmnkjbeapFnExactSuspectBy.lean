/-
  At every view and number the program's SuspectBy answers as the model's; it writes into no argument. Conditions: none (of more than 1048576 claims the law says nothing, by its own text).
-/
import Derived.Test.YtbleikbmnkjbeapRows
import Derived.WalkKit
import Derived.ProofKit
import Derived.OpenShut
import Derived.ShutString
import Derived.ChangeOld
import Derived.Below
import Derived.Test.YtbleikbmnkjbeapSlZ
import Derived.Deep.SlicePairs
import Derived.Lib.SmallJoins
import Derived.Test.YtbleikbmnkjbeapSuspectByLaw
import Derived.Test.YtbleikbmnkjbeapVwO

namespace Go.Proofs.Ytbleikbmnkjbeap.fnExactSuspectBy
open Go.ChangeShapes Go.WideShapes Go.ChangeAt Go.RowKit Go.Joins
open Go.Proofs.Ytbleikbmnkjbeap.W
open Go.Proofs.Ytbleikbmnkjbeap.M
set_option linter.unusedVariables false

theorem own : ownKnob Try.prog.godebug = none := by kernel_rfl
theorem laidOut : laidOutB Try.prog = true := by kernel_rfl

set_option maxRecDepth 100000 in
theorem walk (s0 : Value) (p1 : Int) (w : World) (h0 : ∃ cs, Go.Proofs.Ytbleikbmnkjbeap.W.RdC w s0 cs) (h1 : (Lit.int .i64 p1).wf = true) :
    Calls Try.prog 7 #[s0, .int .i64 p1] w fun e w' => e = .returned (.bool true) ∧ Below w.heap.size w w' := by
  obtain ⟨cs0, q0⟩ := h0
  exact law_SuspectBy s0 cs0 p1 w q0

set_option maxHeartbeats 2000000 in
set_option maxRecDepth 100000 in
theorem lifted (os : Os) (started : os.Started) (H : Type) (enc : TypeId × Value → H) :
    ReturnsInHanded {} Try.checked os 7 .any (Rows.fnExactSuspectBySpec.pre6 enc Try.prog Try.f7 Rows.fnExactSuspectByRow.domain false) (Rows.fnExactSuspectBySpec.post enc Try.prog Try.f7 false true false false) := by
  refine returnsInHanded_of_change (C := Try.checked) own started (by kernel_rfl) Try.func7
    (ChangeSpec.witness6 (enc := enc) (C := Try.checked) false ⟨#[], #[.slice none 0 0, .int .i64 0], []⟩ 8 (by kernel_rfl) (by kernel_rfl) (by kernel_rfl) (by kernel_rfl)) ?_
  intro W base args ds gs before hval0 hW hcnd _
  have hval : ∀ (j : Nat) t v, Try.f7.params[j]? = some t → args[j]? = some v → Value.okWide Try.prog W .any base t v := hval0
  have hW' := hW
  obtain ⟨p, q, hA0, hV, rfl, hfz, hnd⟩ := hW
  have hA : DataW.TrodAll enc Try.prog W 0 (fun _ => true) true Try.f7.params.toList args.toList ds p := hA0
  rw [Try.params7] at hA hval
  obtain ⟨v0, vs0, d0, ds0, p0p, tq0, hargs0, rfl, rfl, h0, tr0⟩ := trodAll_cons hA
  obtain ⟨v1, vs1, d1, ds1, p1p, tq1, hargs1, rfl, rfl, h1, tr1⟩ := trodAll_cons tr0
  obtain ⟨rfl, rfl, rfl⟩ := trodAll_nil tr1
  obtain rfl : args = #[v0, v1] := by cases args; simp_all
  obtain ⟨rfl, rfl⟩ := trodVars_none hV
  have k0 := h0
  have lt0 : ∀ x ∈ p0p, x.block < W.heap.size := by obtain ⟨m, hm⟩ := k0; exact DataW.trod_lt m _ _ _ hm
  obtain ⟨n0, hs0⟩ := h0
  have g0 : ∃ cs, Go.Proofs.Ytbleikbmnkjbeap.W.RdC W v0 cs := by
    obtain ⟨a, b, c, hv⟩ := okWide_slice Try.underlying46 (hval 0 46 v0 rfl rfl)
    subst hv
    exact Go.Proofs.Ytbleikbmnkjbeap.W.rdC_of (by simpa [Value.cells] using hs0)
  have k1 := h1
  have lt1 : ∀ x ∈ p1p, x.block < W.heap.size := by obtain ⟨m, hm⟩ := k1; exact DataW.trod_lt m _ _ _ hm
  obtain ⟨nn1, hn1⟩ := h1
  obtain ⟨p1, e1, -, g1⟩ := DataW.trod_int Try.underlying2 hn1
  obtain rfl : v1 = .int .i64 p1 := by
    have hv := hval 1 2 v1 rfl rfl
    obtain ⟨q, rfl⟩ := okWide_int Try.underlying2 hv
    simpa [Value.cells] using e1
  clear hA0 hval0
  refine (walk v0 p1 W g0 g1).mono fun e W' ⟨he, bel⟩ => ?_
  subst he
  exact ⟨_, rfl, _, _, _, [], _, [], hW', trodAll_mk1 (shut_bool Try.underlying4 _), (trodAll_cons_mk (Below.trod laidOut (by kernel_rfl) (of_decide_eq_true (by kernel_rfl)) k0 bel lt0) (trodAll_cons_mk (Below.trod laidOut (by kernel_rfl) (of_decide_eq_true (by kernel_rfl)) k1 bel lt1) trodAll_mk0)), rfl, bel.frame _, fun h => by cases h⟩

theorem over : Rows.fnExactSuspectByRow.holds Try.pinned (OpenSpec.ofChange Rows.fnExactSuspectBySpec) :=
  OpenClaim.holds_of_wide 7 Try.f7 rfl rfl rfl rfl rfl rfl rfl ⟨rfl, rfl, rfl, rfl, rfl⟩ rfl rfl rfl rfl rfl (by kernel_rfl) Try.func7 (by kernel_rfl)
    (of_decide_eq_true (by kernel_rfl)) (by unfold Func.isWrapper; first | (rw [if_pos (by decide +kernel)]; kernel_rfl) | (rw [if_neg (by decide +kernel)]; exact ⟨rfl, rfl⟩))
    (fun os started H enc _ => lifted os started H enc)

theorem proved : Rows.FnExactSuspectBySaid := over
#print axioms proved
end Go.Proofs.Ytbleikbmnkjbeap.fnExactSuspectBy
