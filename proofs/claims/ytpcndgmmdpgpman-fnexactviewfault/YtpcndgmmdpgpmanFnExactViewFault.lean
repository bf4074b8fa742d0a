/-
  At every slice of claims the program's ViewFault answers as the model's; it writes into no argument. Conditions: none (of more than 1048576 claims the law says nothing, by its own text).
-/
import Derived.Test.YtpcndgmmdpgpmanRows
import Derived.WalkKit
import Derived.ProofKit
import Derived.OpenShut
import Derived.ShutString
import Derived.ChangeOld
import Derived.Below
import Derived.Test.YtpcndgmmdpgpmanSlZ
import Derived.Deep.SlicePairs
import Derived.Lib.SmallJoins
import Derived.Test.YtpcndgmmdpgpmanViewFaultLaw
import Derived.Test.YtpcndgmmdpgpmanVwO

namespace Go.Proofs.Ytpcndgmmdpgpman.fnExactViewFault
open Go.ChangeShapes Go.WideShapes Go.ChangeAt Go.RowKit Go.Joins
open Go.Proofs.Ytpcndgmmdpgpman.W
open Go.Proofs.Ytpcndgmmdpgpman.M
set_option linter.unusedVariables false

theorem own : ownKnob Try.prog.godebug = none := by kernel_rfl
theorem laidOut : laidOutB Try.prog = true := by kernel_rfl

set_option maxRecDepth 100000 in
theorem walk (s0 : Value) (w : World) (h0 : ∃ cs, Go.Proofs.Ytpcndgmmdpgpman.W.RdC w s0 cs) :
    Calls Try.prog 5 #[s0] w fun e w' => e = .returned (.bool true) ∧ Below w.heap.size w w' := by
  obtain ⟨cs, ha⟩ := h0
  exact law_ViewFault s0 cs w ha

set_option maxHeartbeats 2000000 in
set_option maxRecDepth 100000 in
theorem lifted (os : Os) (started : os.Started) (H : Type) (enc : TypeId × Value → H) :
    ReturnsInHanded {} Try.checked os 5 .any (Rows.fnExactViewFaultSpec.pre6 enc Try.prog Try.f5 Rows.fnExactViewFaultRow.domain false) (Rows.fnExactViewFaultSpec.post enc Try.prog Try.f5 false true false false) := by
  refine returnsInHanded_of_change (C := Try.checked) own started (by kernel_rfl) Try.func5
    (ChangeSpec.witness6 (enc := enc) (C := Try.checked) false ⟨#[], #[.slice none 0 0], []⟩ 8 (by kernel_rfl) (by kernel_rfl) (by kernel_rfl) (by kernel_rfl)) ?_
  intro W base args ds gs before hval0 hW hcnd _
  have hval : ∀ (j : Nat) t v, Try.f5.params[j]? = some t → args[j]? = some v → Value.okWide Try.prog W .any base t v := hval0
  have hW' := hW
  obtain ⟨p, q, hA0, hV, rfl, hfz, hnd⟩ := hW
  have hA : DataW.TrodAll enc Try.prog W 0 (fun _ => true) true Try.f5.params.toList args.toList ds p := hA0
  rw [Try.params5] at hA hval
  obtain ⟨v0, vs0, d0, ds0, p0p, tq0, hargs0, rfl, rfl, h0, tr0⟩ := trodAll_cons hA
  obtain ⟨rfl, rfl, rfl⟩ := trodAll_nil tr0
  obtain rfl : args = #[v0] := by cases args; simp_all
  obtain ⟨rfl, rfl⟩ := trodVars_none hV
  have k0 := h0
  have lt0 : ∀ x ∈ p0p, x.block < W.heap.size := by obtain ⟨m, hm⟩ := k0; exact DataW.trod_lt m _ _ _ hm
  obtain ⟨n0, hs0⟩ := h0
  have g0 : ∃ cs, Go.Proofs.Ytpcndgmmdpgpman.W.RdC W v0 cs := by
    obtain ⟨a, b, c, hv⟩ := okWide_slice Try.underlying38 (hval 0 38 v0 rfl rfl)
    subst hv
    exact Go.Proofs.Ytpcndgmmdpgpman.W.rdC_of (by simpa [Value.cells] using hs0)
  clear hA0 hval0
  refine (walk v0 W g0).mono fun e W' ⟨he, bel⟩ => ?_
  subst he
  exact ⟨_, rfl, _, _, _, [], _, [], hW', trodAll_mk1 (shut_bool Try.underlying4 _), (trodAll_cons_mk (Below.trod laidOut (by kernel_rfl) (of_decide_eq_true (by kernel_rfl)) k0 bel lt0) trodAll_mk0), rfl, bel.frame _, fun h => by cases h⟩

theorem over : Rows.fnExactViewFaultRow.holds Try.pinned (OpenSpec.ofChange Rows.fnExactViewFaultSpec) :=
  OpenClaim.holds_of_wide 5 Try.f5 rfl rfl rfl rfl rfl rfl rfl ⟨rfl, rfl, rfl, rfl, rfl⟩ rfl rfl rfl rfl rfl (by kernel_rfl) Try.func5 (by kernel_rfl)
    (of_decide_eq_true (by kernel_rfl)) (by unfold Func.isWrapper; first | (rw [if_pos (by decide +kernel)]; kernel_rfl) | (rw [if_neg (by decide +kernel)]; exact ⟨rfl, rfl⟩))
    (fun os started H enc _ => lifted os started H enc)

theorem proved : Rows.FnExactViewFaultSaid := over
#print axioms proved
end Go.Proofs.Ytpcndgmmdpgpman.fnExactViewFault
