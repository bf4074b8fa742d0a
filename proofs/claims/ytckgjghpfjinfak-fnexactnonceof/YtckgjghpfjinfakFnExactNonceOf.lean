/-
  For every two numbers the program's NonceOf answers as the model's does, field by field; its bytes are its own memory; nothing that was there is written. Conditions: none.
-/
import Derived.Test.YtckgjghpfjinfakRows
import Derived.WalkKit
import Derived.ProofKit
import Derived.OpenShut
import Derived.ShutString
import Derived.Test.YtckgjghpfjinfakNonceOfLaw
import Derived.Test.YtckgjghpfjinfakNcW
import Derived.Below

namespace Go.Proofs.Ytckgjghpfjinfak.fnExactNonceOf
open Go.ChangeShapes Go.WideShapes Go.ChangeAt Go.RowKit
open Go.ChangeMaps (open_string shut_string)
open Go.Proofs.Ytckgjghpfjinfak.M Go.Proofs.Ytckgjghpfjinfak.W
set_option linter.unusedVariables false      -- a walk need not use every 'w<i>' (that an integer argument fits its kind)

theorem own : ownKnob Try.prog.godebug = none := by kernel_rfl

set_option maxRecDepth 100000 in
theorem walk (a0 : Int) (a1 : Int) (w0 : (Lit.int .i64 a0).wf = true) (w1 : (Lit.int .i64 a1).wf = true) (w : World) :
    Calls Try.prog 4 #[.int .i64 a0, .int .i64 a1] w fun e w' => e = .returned (.bool true) ∧ Below w.heap.size w w' := by
  by_cases h : mOk a0 a1
  · obtain ⟨s, rfl⟩ : ∃ t : Nat, a0 = t := ⟨a0.toNat, by have := h.1.1; omega⟩
    obtain ⟨c, rfl⟩ : ∃ t : Nat, a1 = t := ⟨a1.toNat, by have := h.2.1; omega⟩
    have h1 := h.1.2
    have h2 := h.2.2
    exact law_NonceOf _ _ 0 (nonceL s c) w (by rw [nonceL_len]; omega) (hid fun w => (snc_ok s c w (by omega) (by omega)).mono fun e w' ⟨v, he, hO, hB⟩ => ⟨v, he, hO.x, hB⟩) (hid fun w => (inc_ok s c w (by omega) (by omega)).mono fun e w' ⟨v, he, hO, hB⟩ => ⟨v, he, hO.x, hB⟩)
  · exact law_NonceOf a0 a1 3 [] w (by simp) (hid fun w => (snc_bad a0 a1 w (fun q => h q.2)).mono fun e w' ⟨he, hB⟩ => ⟨_, he, Owx.nil _ _, hB⟩) (hid fun w => (inc_bad a0 a1 w h).mono fun e w' ⟨he, hB⟩ => ⟨_, he, Owx.nil _ _, hB⟩)

set_option maxRecDepth 100000 in
theorem lifted (os : Os) (started : os.Started) (H : Type) (enc : TypeId × Value → H) :
    ReturnsInHanded {} Try.checked os 4 .any (Rows.fnExactNonceOfSpec.pre6 enc Try.prog Try.f4 Rows.fnExactNonceOfRow.domain false) (Rows.fnExactNonceOfSpec.post enc Try.prog Try.f4 false true false false) := by
  refine returnsInHanded_of_change (C := Try.checked) own started (by kernel_rfl) Try.func4
    (ChangeSpec.witness6 (enc := enc) (C := Try.checked) false ⟨#[], #[.int .i64 0, .int .i64 0], []⟩ 8 (by kernel_rfl) (by kernel_rfl) (by kernel_rfl) (by kernel_rfl)) ?_
  intro W base args ds gs before hval0 hW hcnd _
  have hval : ∀ (j : Nat) t v, Try.f4.params[j]? = some t → args[j]? = some v → Value.okWide Try.prog W .any base t v := hval0
  have hW' := hW
  obtain ⟨p, q, hA0, hV, rfl, hfz, hnd⟩ := hW
  have hA : DataW.TrodAll enc Try.prog W 0 (fun _ => true) true Try.f4.params.toList args.toList ds p := hA0
  rw [Try.params4] at hA hval
  obtain ⟨v0, vs0, d0, ds0, p0, q0, hargs, rfl, rfl, h0, r0⟩ := trodAll_cons hA
  obtain ⟨v1, vs1, d1, ds1, p1, q1, rfl, rfl, rfl, h1, r1⟩ := trodAll_cons r0
  obtain ⟨rfl, rfl, rfl⟩ := trodAll_nil r1
  obtain rfl : args = #[v0, v1] := by cases args; simp_all
  obtain ⟨rfl, rfl⟩ := trodVars_none hV
  obtain ⟨a0, rfl, rfl, rfl, w0⟩ := open_int Try.underlying2 (hval 0 2 v0 rfl rfl) h0
  obtain ⟨a1, rfl, rfl, rfl, w1⟩ := open_int Try.underlying2 (hval 1 2 v1 rfl rfl) h1
  clear hA0 hval0
  simp only [List.append_nil] at hW'
  refine (walk a0 a1 w0 w1 W).mono fun e W' ⟨he, bel⟩ => ?_
  subst he
  exact ⟨_, rfl, _, _, _, [], _, [], hW', (trodAll_cons_mk (shut_bool Try.underlying4 _) trodAll_mk0), (trodAll_cons_mk (shut_int Try.underlying2 w0) (trodAll_cons_mk (shut_int Try.underlying2 w1) trodAll_mk0)), rfl, bel.frame _, fun h => by cases h⟩

theorem over : Rows.fnExactNonceOfRow.holds Try.pinned (OpenSpec.ofChange Rows.fnExactNonceOfSpec) :=
  OpenClaim.holds_of_wide 4 Try.f4 rfl rfl rfl rfl rfl rfl rfl ⟨rfl, rfl, rfl, rfl, rfl⟩ rfl rfl rfl rfl rfl (by kernel_rfl) Try.func4 (by kernel_rfl)
    (of_decide_eq_true (by kernel_rfl)) (by unfold Func.isWrapper; first | (rw [if_pos (by decide +kernel)]; kernel_rfl) | (rw [if_neg (by decide +kernel)]; exact ⟨rfl, rfl⟩))
    (fun os started H enc _ => lifted os started H enc)

theorem proved : Rows.FnExactNonceOfSaid :=
  over
#print axioms proved
end Go.Proofs.Ytckgjghpfjinfak.fnExactNonceOf
