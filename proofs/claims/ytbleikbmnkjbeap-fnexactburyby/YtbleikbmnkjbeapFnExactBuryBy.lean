/-
  At every view and wait the program's BuryBy answers as the model's; it writes into no argument. Conditions: none (of more than 1048576 claims the law says nothing, by its own text).
-/
import Derived.Test.YtbleikbmnkjbeapRows
import Derived.WalkKit
import Derived.ProofKit
import Derived.OpenShut
import Derived.ShutString
import Derived.ChangeOld
import Derived.Below
import Derived.Test.YtbleikbmnkjbeapSlZ
import Derived.Deep.SlicePairs
import Derived.Lib.SmallJoins
import Derived.Test.YtbleikbmnkjbeapGEBuryBy1

namespace Go.Proofs.Ytbleikbmnkjbeap.fnExactBuryBy
open Go.ChangeShapes Go.WideShapes Go.ChangeAt Go.RowKit Go.Joins
open Go.Proofs.Ytbleikbmnkjbeap.W
open Go.Proofs.Ytbleikbmnkjbeap.M
set_option linter.unusedVariables false

theorem own : ownKnob Try.prog.godebug = none := by kernel_rfl
theorem laidOut : laidOutB Try.prog = true := by kernel_rfl

set_option maxRecDepth 100000 in
theorem walk (s0 : Value) (p1a p1b p1c p1d p1e p1f p1g : Int) (w : World) (h0 : ∃ cs, Go.Proofs.Ytbleikbmnkjbeap.W.RdC w s0 cs) (wf1a : (Lit.int .i64 p1a).wf = true) (wf1b : (Lit.int .i64 p1b).wf = true) (wf1c : (Lit.int .i64 p1c).wf = true) (wf1d : (Lit.int .i64 p1d).wf = true) (wf1e : (Lit.int .i64 p1e).wf = true) (wf1f : (Lit.int .i64 p1f).wf = true) (wf1g : (Lit.int .i64 p1g).wf = true) :
    Calls Try.prog 8 #[s0, .agg #[.int .i64 p1a, .int .i64 p1b, .int .i64 p1c, .int .i64 p1d, .int .i64 p1e, .int .i64 p1f, .int .i64 p1g]] w fun e w' => e = .returned (.bool true) ∧ Below w.heap.size w w' := by
  obtain ⟨cs0, q0⟩ := h0
  exact law_BuryBy s0 cs0 ⟨p1a, p1b, p1c, p1d, p1e, p1f, p1g⟩ w q0

set_option maxHeartbeats 2000000 in
set_option maxRecDepth 100000 in
theorem lifted (os : Os) (started : os.Started) (H : Type) (enc : TypeId × Value → H) :
    ReturnsInHanded {} Try.checked os 8 .any (Rows.fnExactBuryBySpec.pre6 enc Try.prog Try.f8 Rows.fnExactBuryByRow.domain false) (Rows.fnExactBuryBySpec.post enc Try.prog Try.f8 false true false false) := by
  refine returnsInHanded_of_change (C := Try.checked) own started (by kernel_rfl) Try.func8
    (ChangeSpec.witness6 (enc := enc) (C := Try.checked) false ⟨#[], #[.slice none 0 0, .agg #[.int .i64 0, .int .i64 0, .int .i64 0, .int .i64 0, .int .i64 0, .int .i64 0, .int .i64 0]], []⟩ 8 (by kernel_rfl) (by kernel_rfl) (by kernel_rfl) (by kernel_rfl)) ?_
  intro W base args ds gs before hval0 hW hcnd _
  have hval : ∀ (j : Nat) t v, Try.f8.params[j]? = some t → args[j]? = some v → Value.okWide Try.prog W .any base t v := hval0
  have hW' := hW
  obtain ⟨p, q, hA0, hV, rfl, hfz, hnd⟩ := hW
  have hA : DataW.TrodAll enc Try.prog W 0 (fun _ => true) true Try.f8.params.toList args.toList ds p := hA0
  rw [Try.params8] at hA hval
  obtain ⟨v0, vs0, d0, ds0, p0p, tq0, hargs0, rfl, rfl, h0, tr0⟩ := trodAll_cons hA
  obtain ⟨v1, vs1, d1, ds1, p1p, tq1, hargs1, rfl, rfl, h1, tr1⟩ := trodAll_cons tr0
  obtain ⟨rfl, rfl, rfl⟩ := trodAll_nil tr1
  obtain rfl : args = #[v0, v1] := by cases args; simp_all
  obtain ⟨rfl, rfl⟩ := trodVars_none hV
  have k0 := h0
  have lt0 : ∀ x ∈ p0p, x.block < W.heap.size := by obtain ⟨m, hm⟩ := k0; exact DataW.trod_lt m _ _ _ hm
  obtain ⟨n0, hs0⟩ := h0
  have g0 : ∃ cs, Go.Proofs.Ytbleikbmnkjbeap.W.RdC W v0 cs := by
    obtain ⟨a, b, c, hv⟩ := okWide_slice Try.underlying46 (hval 0 46 v0 rfl rfl)
    subst hv
    exact Go.Proofs.Ytbleikbmnkjbeap.W.rdC_of (by simpa [Value.cells] using hs0)
  have k1 := h1
  have lt1 : ∀ x ∈ p1p, x.block < W.heap.size := by obtain ⟨m, hm⟩ := k1; exact DataW.trod_lt m _ _ _ hm
  obtain ⟨p1a, p1b, p1c, p1d, p1e, p1f, p1g, rfl, wf1a, wf1b, wf1c, wf1d, wf1e, wf1f, wf1g⟩ := Go.Proofs.Ytbleikbmnkjbeap.W.open_wait (hval 1 54 v1 rfl rfl) h1
  clear hA0 hval0
  refine (walk v0 p1a p1b p1c p1d p1e p1f p1g W g0 wf1a wf1b wf1c wf1d wf1e wf1f wf1g).mono fun e W' ⟨he, bel⟩ => ?_
  subst he
  exact ⟨_, rfl, _, _, _, [], _, [], hW', trodAll_mk1 (shut_bool Try.underlying4 _), (trodAll_cons_mk (Below.trod laidOut (by kernel_rfl) (of_decide_eq_true (by kernel_rfl)) k0 bel lt0) (trodAll_cons_mk (Below.trod laidOut (by kernel_rfl) (of_decide_eq_true (by kernel_rfl)) k1 bel lt1) trodAll_mk0)), rfl, bel.frame _, fun h => by cases h⟩

theorem over : Rows.fnExactBuryByRow.holds Try.pinned (OpenSpec.ofChange Rows.fnExactBuryBySpec) :=
  OpenClaim.holds_of_wide 8 Try.f8 rfl rfl rfl rfl rfl rfl rfl ⟨rfl, rfl, rfl, rfl, rfl⟩ rfl rfl rfl rfl rfl (by kernel_rfl) Try.func8 (by kernel_rfl)
    (of_decide_eq_true (by kernel_rfl)) (by unfold Func.isWrapper; first | (rw [if_pos (by decide +kernel)]; kernel_rfl) | (rw [if_neg (by decide +kernel)]; exact ⟨rfl, rfl⟩))
    (fun os started H enc _ => lifted os started H enc)

theorem proved : Rows.FnExactBuryBySaid := over
#print axioms proved
end Go.Proofs.Ytbleikbmnkjbeap.fnExactBuryBy
