/-
  At every claim the program's ClaimFault answers as the model's. Conditions: none.
-/
import Derived.Test.YtifgcffifffdnamRows
import Derived.WalkKit
import Derived.ProofKit
import Derived.OpenShut
import Derived.ShutString
import Derived.ChangeOld
import Derived.Below
import Derived.Test.YtifgcffifffdnamRng
import Derived.Test.YtifgcffifffdnamClaimFaultLaw

namespace Go.Proofs.Ytifgcffifffdnam.fnExactClaimFault
open Go.ChangeShapes Go.WideShapes Go.ChangeAt Go.RowKit Go.Joins
open Go.Proofs.Ytifgcffifffdnam.W
open Go.Proofs.Ytifgcffifffdnam.M
set_option linter.unusedVariables false

theorem own : ownKnob Try.prog.godebug = none := by kernel_rfl
theorem laidOut : laidOutB Try.prog = true := by kernel_rfl

set_option maxRecDepth 100000 in
theorem walk (p0 q0 r0 u0 : Int) (w : World) (wf0 : (Lit.int .i64 p0).wf = true) (wfq0 : (Lit.int .i64 q0).wf = true) (wfr0 : (Lit.int .i64 r0).wf = true) (wfu0 : (Lit.int .i64 u0).wf = true) :
    Calls Try.prog 4 #[.agg #[.int .i64 p0, .int .i64 q0, .int .i64 r0, .int .i64 u0]] w fun e w' => e = .returned (.bool true) ∧ Below w.heap.size w w' := by
  exact law_ClaimFault p0 q0 r0 u0 w

set_option maxHeartbeats 2000000 in
set_option maxRecDepth 100000 in
theorem lifted (os : Os) (started : os.Started) (H : Type) (enc : TypeId × Value → H) :
    ReturnsInHanded {} Try.checked os 4 .any (Rows.fnExactClaimFaultSpec.pre6 enc Try.prog Try.f4 Rows.fnExactClaimFaultRow.domain false) (Rows.fnExactClaimFaultSpec.post enc Try.prog Try.f4 false true false false) := by
  refine returnsInHanded_of_change (C := Try.checked) own started (by kernel_rfl) Try.func4
    (ChangeSpec.witness6 (enc := enc) (C := Try.checked) false ⟨#[], #[.agg #[.int .i64 0, .int .i64 0, .int .i64 0, .int .i64 0]], []⟩ 8 (by kernel_rfl) (by kernel_rfl) (by kernel_rfl) (by kernel_rfl)) ?_
  intro W base args ds gs before hval0 hW hcnd _
  have hval : ∀ (j : Nat) t v, Try.f4.params[j]? = some t → args[j]? = some v → Value.okWide Try.prog W .any base t v := hval0
  have hW' := hW
  obtain ⟨p, q, hA0, hV, rfl, hfz, hnd⟩ := hW
  have hA : DataW.TrodAll enc Try.prog W 0 (fun _ => true) true Try.f4.params.toList args.toList ds p := hA0
  rw [Try.params4] at hA hval
  obtain ⟨v0, vs0, d0, ds0, p0p, tq0, hargs0, rfl, rfl, h0, tr0⟩ := trodAll_cons hA
  obtain ⟨rfl, rfl, rfl⟩ := trodAll_nil tr0
  obtain rfl : args = #[v0] := by cases args; simp_all
  obtain ⟨rfl, rfl⟩ := trodVars_none hV
  have k0 := h0
  have lt0 : ∀ x ∈ p0p, x.block < W.heap.size := by obtain ⟨m, hm⟩ := k0; exact DataW.trod_lt m _ _ _ hm
  obtain ⟨z0, za0, zb0, zc0, y00, y01, y02, y03, n0, rfl, rfl, rfl, hz0, hza0, hzb0, hzc0⟩ := open_agg4 Try.underlying31 (by kernel_rfl) (by kernel_rfl) (hval 0 31 v0 rfl rfl) h0
  obtain ⟨p0, e0, -, wf0⟩ := DataW.trod_int Try.underlying2 hz0
  simp only [List.cons.injEq, and_true] at e0
  subst e0
  obtain ⟨q0, ea0, -, wfq0⟩ := DataW.trod_int Try.underlying2 hza0
  simp only [List.cons.injEq, and_true] at ea0
  subst ea0
  obtain ⟨r0, eb0, -, wfr0⟩ := DataW.trod_int Try.underlying2 hzb0
  simp only [List.cons.injEq, and_true] at eb0
  subst eb0
  obtain ⟨u0, ec0, -, wfu0⟩ := DataW.trod_int Try.underlying2 hzc0
  simp only [List.cons.injEq, and_true] at ec0
  subst ec0
  clear hA0 hval0
  refine (walk p0 q0 r0 u0 W wf0 wfq0 wfr0 wfu0).mono fun e W' ⟨he, bel⟩ => ?_
  subst he
  exact ⟨_, rfl, _, _, _, [], _, [], hW', trodAll_mk1 (shut_bool Try.underlying4 _), (trodAll_cons_mk (Below.trod laidOut (by kernel_rfl) (of_decide_eq_true (by kernel_rfl)) k0 bel lt0) trodAll_mk0), rfl, bel.frame _, fun h => by cases h⟩

theorem over : Rows.fnExactClaimFaultRow.holds Try.pinned (OpenSpec.ofChange Rows.fnExactClaimFaultSpec) :=
  OpenClaim.holds_of_wide 4 Try.f4 rfl rfl rfl rfl rfl rfl rfl ⟨rfl, rfl, rfl, rfl, rfl⟩ rfl rfl rfl rfl rfl (by kernel_rfl) Try.func4 (by kernel_rfl)
    (of_decide_eq_true (by kernel_rfl)) (by unfold Func.isWrapper; first | (rw [if_pos (by decide +kernel)]; kernel_rfl) | (rw [if_neg (by decide +kernel)]; exact ⟨rfl, rfl⟩))
    (fun os started H enc _ => lifted os started H enc)

theorem proved : Rows.FnExactClaimFaultSaid := over
#print axioms proved
end Go.Proofs.Ytifgcffifffdnam.fnExactClaimFault
