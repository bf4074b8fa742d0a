/-
  At every two claims the program's RefuteBy answers as the model's. Conditions: none.
-/
import Derived.Test.YtbleikbmnkjbeapRows
import Derived.WalkKit
import Derived.ProofKit
import Derived.OpenShut
import Derived.ShutString
import Derived.ChangeOld
import Derived.Below
import Derived.Test.YtbleikbmnkjbeapRng
import Derived.Test.YtbleikbmnkjbeapRefuteByLaw

namespace Go.Proofs.Ytbleikbmnkjbeap.fnExactRefuteBy
open Go.ChangeShapes Go.WideShapes Go.ChangeAt Go.RowKit Go.Joins
open Go.Proofs.Ytbleikbmnkjbeap.W
open Go.Proofs.Ytbleikbmnkjbeap.M
set_option linter.unusedVariables false

theorem own : ownKnob Try.prog.godebug = none := by kernel_rfl
theorem laidOut : laidOutB Try.prog = true := by kernel_rfl

set_option maxRecDepth 100000 in
theorem walk (p0 q0 r0 u0 : Int) (p1 q1 r1 u1 : Int) (w : World) (wf0 : (Lit.int .i64 p0).wf = true) (wfq0 : (Lit.int .i64 q0).wf = true) (wfr0 : (Lit.int .i64 r0).wf = true) (wfu0 : (Lit.int .i64 u0).wf = true) (wf1 : (Lit.int .i64 p1).wf = true) (wfq1 : (Lit.int .i64 q1).wf = true) (wfr1 : (Lit.int .i64 r1).wf = true) (wfu1 : (Lit.int .i64 u1).wf = true) :
    Calls Try.prog 6 #[.agg #[.int .i64 p0, .int .i64 q0, .int .i64 r0, .int .i64 u0], .agg #[.int .i64 p1, .int .i64 q1, .int .i64 r1, .int .i64 u1]] w fun e w' => e = .returned (.bool true) ∧ Below w.heap.size w w' := by
  exact law_RefuteBy ⟨p0, q0, r0, u0⟩ ⟨p1, q1, r1, u1⟩ w

set_option maxHeartbeats 2000000 in
set_option maxRecDepth 100000 in
theorem lifted (os : Os) (started : os.Started) (H : Type) (enc : TypeId × Value → H) :
    ReturnsInHanded {} Try.checked os 6 .any (Rows.fnExactRefuteBySpec.pre6 enc Try.prog Try.f6 Rows.fnExactRefuteByRow.domain false) (Rows.fnExactRefuteBySpec.post enc Try.prog Try.f6 false true false false) := by
  refine returnsInHanded_of_change (C := Try.checked) own started (by kernel_rfl) Try.func6
    (ChangeSpec.witness6 (enc := enc) (C := Try.checked) false ⟨#[], #[.agg #[.int .i64 0, .int .i64 0, .int .i64 0, .int .i64 0], .agg #[.int .i64 0, .int .i64 0, .int .i64 0, .int .i64 0]], []⟩ 8 (by kernel_rfl) (by kernel_rfl) (by kernel_rfl) (by kernel_rfl)) ?_
  intro W base args ds gs before hval0 hW hcnd _
  have hval : ∀ (j : Nat) t v, Try.f6.params[j]? = some t → args[j]? = some v → Value.okWide Try.prog W .any base t v := hval0
  have hW' := hW
  obtain ⟨p, q, hA0, hV, rfl, hfz, hnd⟩ := hW
  have hA : DataW.TrodAll enc Try.prog W 0 (fun _ => true) true Try.f6.params.toList args.toList ds p := hA0
  rw [Try.params6] at hA hval
  obtain ⟨v0, vs0, d0, ds0, p0p, tq0, hargs0, rfl, rfl, h0, tr0⟩ := trodAll_cons hA
  obtain ⟨v1, vs1, d1, ds1, p1p, tq1, hargs1, rfl, rfl, h1, tr1⟩ := trodAll_cons tr0
  obtain ⟨rfl, rfl, rfl⟩ := trodAll_nil tr1
  obtain rfl : args = #[v0, v1] := by cases args; simp_all
  obtain ⟨rfl, rfl⟩ := trodVars_none hV
  have k0 := h0
  have lt0 : ∀ x ∈ p0p, x.block < W.heap.size := by obtain ⟨m, hm⟩ := k0; exact DataW.trod_lt m _ _ _ hm
  obtain ⟨z0, za0, zb0, zc0, y00, y01, y02, y03, n0, rfl, rfl, rfl, hz0, hza0, hzb0, hzc0⟩ := open_agg4 Try.underlying38 (by kernel_rfl) (by kernel_rfl) (hval 0 38 v0 rfl rfl) h0
  obtain ⟨p0, e0, -, wf0⟩ := DataW.trod_int Try.underlying2 hz0
  simp only [List.cons.injEq, and_true] at e0
  subst e0
  obtain ⟨q0, ea0, -, wfq0⟩ := DataW.trod_int Try.underlying2 hza0
  simp only [List.cons.injEq, and_true] at ea0
  subst ea0
  obtain ⟨r0, eb0, -, wfr0⟩ := DataW.trod_int Try.underlying2 hzb0
  simp only [List.cons.injEq, and_true] at eb0
  subst eb0
  obtain ⟨u0, ec0, -, wfu0⟩ := DataW.trod_int Try.underlying2 hzc0
  simp only [List.cons.injEq, and_true] at ec0
  subst ec0
  have k1 := h1
  have lt1 : ∀ x ∈ p1p, x.block < W.heap.size := by obtain ⟨m, hm⟩ := k1; exact DataW.trod_lt m _ _ _ hm
  obtain ⟨z1, za1, zb1, zc1, y10, y11, y12, y13, n1, rfl, rfl, rfl, hz1, hza1, hzb1, hzc1⟩ := open_agg4 Try.underlying38 (by kernel_rfl) (by kernel_rfl) (hval 1 38 v1 rfl rfl) h1
  obtain ⟨p1, e1, -, wf1⟩ := DataW.trod_int Try.underlying2 hz1
  simp only [List.cons.injEq, and_true] at e1
  subst e1
  obtain ⟨q1, ea1, -, wfq1⟩ := DataW.trod_int Try.underlying2 hza1
  simp only [List.cons.injEq, and_true] at ea1
  subst ea1
  obtain ⟨r1, eb1, -, wfr1⟩ := DataW.trod_int Try.underlying2 hzb1
  simp only [List.cons.injEq, and_true] at eb1
  subst eb1
  obtain ⟨u1, ec1, -, wfu1⟩ := DataW.trod_int Try.underlying2 hzc1
  simp only [List.cons.injEq, and_true] at ec1
  subst ec1
  clear hA0 hval0
  refine (walk p0 q0 r0 u0 p1 q1 r1 u1 W wf0 wfq0 wfr0 wfu0 wf1 wfq1 wfr1 wfu1).mono fun e W' ⟨he, bel⟩ => ?_
  subst he
  exact ⟨_, rfl, _, _, _, [], _, [], hW', trodAll_mk1 (shut_bool Try.underlying4 _), (trodAll_cons_mk (Below.trod laidOut (by kernel_rfl) (of_decide_eq_true (by kernel_rfl)) k0 bel lt0) (trodAll_cons_mk (Below.trod laidOut (by kernel_rfl) (of_decide_eq_true (by kernel_rfl)) k1 bel lt1) trodAll_mk0)), rfl, bel.frame _, fun h => by cases h⟩

theorem over : Rows.fnExactRefuteByRow.holds Try.pinned (OpenSpec.ofChange Rows.fnExactRefuteBySpec) :=
  OpenClaim.holds_of_wide 6 Try.f6 rfl rfl rfl rfl rfl rfl rfl ⟨rfl, rfl, rfl, rfl, rfl⟩ rfl rfl rfl rfl rfl (by kernel_rfl) Try.func6 (by kernel_rfl)
    (of_decide_eq_true (by kernel_rfl)) (by unfold Func.isWrapper; first | (rw [if_pos (by decide +kernel)]; kernel_rfl) | (rw [if_neg (by decide +kernel)]; exact ⟨rfl, rfl⟩))
    (fun os started H enc _ => lifted os started H enc)

theorem proved : Rows.FnExactRefuteBySaid := over
#print axioms proved
end Go.Proofs.Ytbleikbmnkjbeap.fnExactRefuteBy
