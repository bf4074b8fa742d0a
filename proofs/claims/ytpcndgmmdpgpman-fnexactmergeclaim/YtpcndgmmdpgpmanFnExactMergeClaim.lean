/-
  At every view and claim the program's MergeClaim answers as the model's, field by field; it writes into no argument and keeps nothing of one; its answer owns its memory. Conditions: none (of more than 1048576 claims the law says nothing, by its own text).
-/
import Derived.Test.YtpcndgmmdpgpmanRows
import Derived.WalkKit
import Derived.ProofKit
import Derived.OpenShut
import Derived.ShutString
import Derived.ChangeOld
import Derived.Below
import Derived.Test.YtpcndgmmdpgpmanSlZ
import Derived.Deep.SlicePairs
import Derived.Lib.SmallJoins
import Derived.Test.YtpcndgmmdpgpmanMergeClaimLaw
import Derived.Test.YtpcndgmmdpgpmanVwMc
import Derived.Test.YtpcndgmmdpgpmanVwO

namespace Go.Proofs.Ytpcndgmmdpgpman.fnExactMergeClaim
open Go.ChangeShapes Go.WideShapes Go.ChangeAt Go.RowKit Go.Joins
open Go.Proofs.Ytpcndgmmdpgpman.W
open Go.Proofs.Ytpcndgmmdpgpman.M
set_option linter.unusedVariables false

theorem own : ownKnob Try.prog.godebug = none := by kernel_rfl
theorem laidOut : laidOutB Try.prog = true := by kernel_rfl

set_option maxRecDepth 100000 in
theorem walk (s0 : Value) (p1 q1 r1 u1 : Int) (w : World) (h0 : ∃ cs, Go.Proofs.Ytpcndgmmdpgpman.W.RdC w s0 cs) (wf1 : (Lit.int .i64 p1).wf = true) (wfq1 : (Lit.int .i64 q1).wf = true) (wfr1 : (Lit.int .i64 r1).wf = true) (wfu1 : (Lit.int .i64 u1).wf = true) :
    Calls Try.prog 8 #[s0, .agg #[.int .i64 p1, .int .i64 q1, .int .i64 r1, .int .i64 u1]] w fun e w' => e = .returned (.bool true) ∧ Below w.heap.size w w' := by
  obtain ⟨cs, ha⟩ := h0
  have hl : (mcL cs ⟨p1, q1, r1, u1⟩).length ≤ 1048576 := by
    unfold mcL
    split
    · rename_i q
      have := (vF_ok (mrg_ok q.1 q.2)).1
      omega
    · simp
  exact law_MergeClaim ⟨p1, q1, r1, u1⟩ (mcC cs ⟨p1, q1, r1, u1⟩) (mcT cs ⟨p1, q1, r1, u1⟩) cs (mcL cs ⟨p1, q1, r1, u1⟩) s0 w hl ha (hid fun w v0 _ h => smc v0 cs ⟨p1, q1, r1, u1⟩ w h) (hid fun w v0 _ h => imc v0 cs ⟨p1, q1, r1, u1⟩ w h)

set_option maxHeartbeats 2000000 in
set_option maxRecDepth 100000 in
theorem lifted (os : Os) (started : os.Started) (H : Type) (enc : TypeId × Value → H) :
    ReturnsInHanded {} Try.checked os 8 .any (Rows.fnExactMergeClaimSpec.pre6 enc Try.prog Try.f8 Rows.fnExactMergeClaimRow.domain false) (Rows.fnExactMergeClaimSpec.post enc Try.prog Try.f8 false true false false) := by
  refine returnsInHanded_of_change (C := Try.checked) own started (by kernel_rfl) Try.func8
    (ChangeSpec.witness6 (enc := enc) (C := Try.checked) false ⟨#[], #[.slice none 0 0, .agg #[.int .i64 0, .int .i64 0, .int .i64 0, .int .i64 0]], []⟩ 8 (by kernel_rfl) (by kernel_rfl) (by kernel_rfl) (by kernel_rfl)) ?_
  intro W base args ds gs before hval0 hW hcnd _
  have hval : ∀ (j : Nat) t v, Try.f8.params[j]? = some t → args[j]? = some v → Value.okWide Try.prog W .any base t v := hval0
  have hW' := hW
  obtain ⟨p, q, hA0, hV, rfl, hfz, hnd⟩ := hW
  have hA : DataW.TrodAll enc Try.prog W 0 (fun _ => true) true Try.f8.params.toList args.toList ds p := hA0
  rw [Try.params8] at hA hval
  obtain ⟨v0, vs0, d0, ds0, p0p, tq0, hargs0, rfl, rfl, h0, tr0⟩ := trodAll_cons hA
  obtain ⟨v1, vs1, d1, ds1, p1p, tq1, hargs1, rfl, rfl, h1, tr1⟩ := trodAll_cons tr0
  obtain ⟨rfl, rfl, rfl⟩ := trodAll_nil tr1
  obtain rfl : args = #[v0, v1] := by cases args; simp_all
  obtain ⟨rfl, rfl⟩ := trodVars_none hV
  have k0 := h0
  have lt0 : ∀ x ∈ p0p, x.block < W.heap.size := by obtain ⟨m, hm⟩ := k0; exact DataW.trod_lt m _ _ _ hm
  obtain ⟨n0, hs0⟩ := h0
  have g0 : ∃ cs, Go.Proofs.Ytpcndgmmdpgpman.W.RdC W v0 cs := by
    obtain ⟨a, b, c, hv⟩ := okWide_slice Try.underlying38 (hval 0 38 v0 rfl rfl)
    subst hv
    exact Go.Proofs.Ytpcndgmmdpgpman.W.rdC_of (by simpa [Value.cells] using hs0)
  have k1 := h1
  have lt1 : ∀ x ∈ p1p, x.block < W.heap.size := by obtain ⟨m, hm⟩ := k1; exact DataW.trod_lt m _ _ _ hm
  obtain ⟨z1, za1, zb1, zc1, y10, y11, y12, y13, n1, rfl, rfl, rfl, hz1, hza1, hzb1, hzc1⟩ := open_agg4 Try.underlying46 (by kernel_rfl) (by kernel_rfl) (hval 1 46 v1 rfl rfl) h1
  obtain ⟨p1, e1, -, wf1⟩ := DataW.trod_int Try.underlying2 hz1
  simp only [List.cons.injEq, and_true] at e1
  subst e1
  obtain ⟨q1, ea1, -, wfq1⟩ := DataW.trod_int Try.underlying2 hza1
  simp only [List.cons.injEq, and_true] at ea1
  subst ea1
  obtain ⟨r1, eb1, -, wfr1⟩ := DataW.trod_int Try.underlying2 hzb1
  simp only [List.cons.injEq, and_true] at eb1
  subst eb1
  obtain ⟨u1, ec1, -, wfu1⟩ := DataW.trod_int Try.underlying2 hzc1
  simp only [List.cons.injEq, and_true] at ec1
  subst ec1
  clear hA0 hval0
  refine (walk v0 p1 q1 r1 u1 W g0 wf1 wfq1 wfr1 wfu1).mono fun e W' ⟨he, bel⟩ => ?_
  subst he
  exact ⟨_, rfl, _, _, _, [], _, [], hW', trodAll_mk1 (shut_bool Try.underlying4 _), (trodAll_cons_mk (Below.trod laidOut (by kernel_rfl) (of_decide_eq_true (by kernel_rfl)) k0 bel lt0) (trodAll_cons_mk (Below.trod laidOut (by kernel_rfl) (of_decide_eq_true (by kernel_rfl)) k1 bel lt1) trodAll_mk0)), rfl, bel.frame _, fun h => by cases h⟩

theorem over : Rows.fnExactMergeClaimRow.holds Try.pinned (OpenSpec.ofChange Rows.fnExactMergeClaimSpec) :=
  OpenClaim.holds_of_wide 8 Try.f8 rfl rfl rfl rfl rfl rfl rfl ⟨rfl, rfl, rfl, rfl, rfl⟩ rfl rfl rfl rfl rfl (by kernel_rfl) Try.func8 (by kernel_rfl)
    (of_decide_eq_true (by kernel_rfl)) (by unfold Func.isWrapper; first | (rw [if_pos (by decide +kernel)]; kernel_rfl) | (rw [if_neg (by decide +kernel)]; exact ⟨rfl, rfl⟩))
    (fun os started H enc _ => lifted os started H enc)

theorem proved : Rows.FnExactMergeClaimSaid := over
#print axioms proved
end Go.Proofs.Ytpcndgmmdpgpman.fnExactMergeClaim
