/-
  At every slice of waits the program's AgeWaits answers as the model's, both lists; it writes into no argument, and its answer owns its memory. Conditions: none (of more than 1048576 waits the law says nothing, by its own text).
-/
import Derived.Test.YtbleikbmnkjbeapRows
import Derived.WalkKit
import Derived.ProofKit
import Derived.OpenShut
import Derived.ShutString
import Derived.ChangeOld
import Derived.Below
import Derived.Test.YtbleikbmnkjbeapSlZ
import Derived.Deep.SlicePairs
import Derived.Lib.SmallJoins
import Derived.Test.YtbleikbmnkjbeapAgeWaitsLaw
import Derived.Test.YtbleikbmnkjbeapWtO

namespace Go.Proofs.Ytbleikbmnkjbeap.fnExactAgeWaits
open Go.ChangeShapes Go.WideShapes Go.ChangeAt Go.RowKit Go.Joins
open Go.Proofs.Ytbleikbmnkjbeap.W
open Go.Proofs.Ytbleikbmnkjbeap.M
set_option linter.unusedVariables false

theorem own : ownKnob Try.prog.godebug = none := by kernel_rfl
theorem laidOut : laidOutB Try.prog = true := by kernel_rfl

set_option maxRecDepth 100000 in
theorem walk (s0 : Value) (w : World) (h0 : ∃ cs, Go.Proofs.Ytbleikbmnkjbeap.W.RdJ w s0 cs) :
    Calls Try.prog 4 #[s0] w fun e w' => e = .returned (.bool true) ∧ Below w.heap.size w w' := by
  obtain ⟨cs, ha⟩ := h0
  exact law_AgeWaits (agC cs) cs (agL cs) (agE cs) s0 w (agL_small cs) (agE_small cs) ha (hid fun w v _ h => (sage v cs w h).mono fun _ _ ⟨x, y, he, h1, h2, hB⟩ => ⟨x, y, he, ⟨h1, h2⟩, hB⟩) (hid fun w v _ h => (iage v cs w h).mono fun _ _ ⟨x, y, he, hT, hB⟩ => ⟨x, y, he, TwI.of hT, hB⟩)

set_option maxHeartbeats 2000000 in
set_option maxRecDepth 100000 in
theorem lifted (os : Os) (started : os.Started) (H : Type) (enc : TypeId × Value → H) :
    ReturnsInHanded {} Try.checked os 4 .any (Rows.fnExactAgeWaitsSpec.pre6 enc Try.prog Try.f4 Rows.fnExactAgeWaitsRow.domain false) (Rows.fnExactAgeWaitsSpec.post enc Try.prog Try.f4 false true false false) := by
  refine returnsInHanded_of_change (C := Try.checked) own started (by kernel_rfl) Try.func4
    (ChangeSpec.witness6 (enc := enc) (C := Try.checked) false ⟨#[], #[.slice none 0 0], []⟩ 8 (by kernel_rfl) (by kernel_rfl) (by kernel_rfl) (by kernel_rfl)) ?_
  intro W base args ds gs before hval0 hW hcnd _
  have hval : ∀ (j : Nat) t v, Try.f4.params[j]? = some t → args[j]? = some v → Value.okWide Try.prog W .any base t v := hval0
  have hW' := hW
  obtain ⟨p, q, hA0, hV, rfl, hfz, hnd⟩ := hW
  have hA : DataW.TrodAll enc Try.prog W 0 (fun _ => true) true Try.f4.params.toList args.toList ds p := hA0
  rw [Try.params4] at hA hval
  obtain ⟨v0, vs0, d0, ds0, p0p, tq0, hargs0, rfl, rfl, h0, tr0⟩ := trodAll_cons hA
  obtain ⟨rfl, rfl, rfl⟩ := trodAll_nil tr0
  obtain rfl : args = #[v0] := by cases args; simp_all
  obtain ⟨rfl, rfl⟩ := trodVars_none hV
  have k0 := h0
  have lt0 : ∀ x ∈ p0p, x.block < W.heap.size := by obtain ⟨m, hm⟩ := k0; exact DataW.trod_lt m _ _ _ hm
  obtain ⟨n0, hs0⟩ := h0
  have g0 : ∃ cs, Go.Proofs.Ytbleikbmnkjbeap.W.RdJ W v0 cs := by
    obtain ⟨a, b, c, hv⟩ := okWide_slice Try.underlying22 (hval 0 22 v0 rfl rfl)
    subst hv
    exact Go.Proofs.Ytbleikbmnkjbeap.W.rdJ_of (by simpa [Value.cells] using hs0)
  clear hA0 hval0
  refine (walk v0 W g0).mono fun e W' ⟨he, bel⟩ => ?_
  subst he
  exact ⟨_, rfl, _, _, _, [], _, [], hW', trodAll_mk1 (shut_bool Try.underlying4 _), (trodAll_cons_mk (Below.trod laidOut (by kernel_rfl) (of_decide_eq_true (by kernel_rfl)) k0 bel lt0) trodAll_mk0), rfl, bel.frame _, fun h => by cases h⟩

theorem over : Rows.fnExactAgeWaitsRow.holds Try.pinned (OpenSpec.ofChange Rows.fnExactAgeWaitsSpec) :=
  OpenClaim.holds_of_wide 4 Try.f4 rfl rfl rfl rfl rfl rfl rfl ⟨rfl, rfl, rfl, rfl, rfl⟩ rfl rfl rfl rfl rfl (by kernel_rfl) Try.func4 (by kernel_rfl)
    (of_decide_eq_true (by kernel_rfl)) (by unfold Func.isWrapper; first | (rw [if_pos (by decide +kernel)]; kernel_rfl) | (rw [if_neg (by decide +kernel)]; exact ⟨rfl, rfl⟩))
    (fun os started H enc _ => lifted os started H enc)

theorem proved : Rows.FnExactAgeWaitsSaid := over
#print axioms proved
end Go.Proofs.Ytbleikbmnkjbeap.fnExactAgeWaits
