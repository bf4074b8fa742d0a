/-
  At every letter the program's LetterFault answers as the model's; it writes into no argument. Conditions: none (of letters of more than 1048576 bytes the law says nothing, by its own text).
-/
import Derived.Test.YtckgjghpfjinfakRows
import Derived.WalkKit
import Derived.ProofKit
import Derived.OpenShut
import Derived.ShutString
import Derived.ChangeOld
import Derived.Below
import Derived.Test.YtckgjghpfjinfakRng
import Derived.Test.YtckgjghpfjinfakLetterFaultLaw

namespace Go.Proofs.Ytckgjghpfjinfak.fnExactLetterFault
open Go.ChangeShapes Go.WideShapes Go.ChangeAt Go.RowKit Go.Joins
open Go.Proofs.Ytckgjghpfjinfak.W
open Go.Proofs.Ytckgjghpfjinfak.M
set_option linter.unusedVariables false

theorem own : ownKnob Try.prog.godebug = none := by kernel_rfl
theorem laidOut : laidOutB Try.prog = true := by kernel_rfl

set_option maxRecDepth 100000 in
theorem walk (p0 q0 r0 : Int) (s0 : Value) (w : World) (h0 : ∃ l, Rd w s0 l ∧ Byt l) (wf0 : (Lit.int .i64 p0).wf = true) (wfq0 : (Lit.int .i64 q0).wf = true) (wfr0 : (Lit.int .i64 r0).wf = true) :
    Calls Try.prog 3 #[.agg #[.int .i64 p0, .int .i64 q0, .int .i64 r0, s0]] w fun e w' => e = .returned (.bool true) ∧ Below w.heap.size w w' := by
  obtain ⟨l, ha, -⟩ := h0
  exact law_lf p0 q0 r0 s0 l w ha

set_option maxRecDepth 100000 in
theorem lifted (os : Os) (started : os.Started) (H : Type) (enc : TypeId × Value → H) :
    ReturnsInHanded {} Try.checked os 3 .any (Rows.fnExactLetterFaultSpec.pre6 enc Try.prog Try.f3 Rows.fnExactLetterFaultRow.domain false) (Rows.fnExactLetterFaultSpec.post enc Try.prog Try.f3 false true false false) := by
  refine returnsInHanded_of_change (C := Try.checked) own started (by kernel_rfl) Try.func3
    (ChangeSpec.witness6 (enc := enc) (C := Try.checked) false ⟨#[], #[.agg #[.int .i64 0, .int .i64 0, .int .i64 0, .slice none 0 0]], []⟩ 8 (by kernel_rfl) (by kernel_rfl) (by kernel_rfl) (by kernel_rfl)) ?_
  intro W base args ds gs before hval0 hW hcnd _
  have hval : ∀ (j : Nat) t v, Try.f3.params[j]? = some t → args[j]? = some v → Value.okWide Try.prog W .any base t v := hval0
  have hW' := hW
  obtain ⟨p, q, hA0, hV, rfl, hfz, hnd⟩ := hW
  have hA : DataW.TrodAll enc Try.prog W 0 (fun _ => true) true Try.f3.params.toList args.toList ds p := hA0
  rw [Try.params3] at hA hval
  obtain ⟨v0, vs0, d0, ds0, p0p, q0, hargs0, rfl, rfl, h0, r0⟩ := trodAll_cons hA
  obtain ⟨rfl, rfl, rfl⟩ := trodAll_nil r0
  obtain rfl : args = #[v0] := by cases args; simp_all
  obtain ⟨rfl, rfl⟩ := trodVars_none hV
  have k0 := h0
  have lt0 : ∀ x ∈ p0p, x.block < W.heap.size := by obtain ⟨m, hm⟩ := k0; exact DataW.trod_lt m _ _ _ hm
  obtain ⟨z0, za0, zb0, s0, y00, y01, y02, y03, n0, rfl, rfl, rfl, hz0, hza0, hzb0, hs0⟩ := open_agg4 Try.underlying24 (by kernel_rfl) (by kernel_rfl) (hval 0 24 v0 rfl rfl) h0
  obtain ⟨p0, e0, -, wf0⟩ := DataW.trod_int Try.underlying2 hz0
  simp only [List.cons.injEq, and_true] at e0
  subst e0
  obtain ⟨q0, ea0, -, wfq0⟩ := DataW.trod_int Try.underlying2 hza0
  simp only [List.cons.injEq, and_true] at ea0
  subst ea0
  obtain ⟨r0, eb0, -, wfr0⟩ := DataW.trod_int Try.underlying2 hzb0
  simp only [List.cons.injEq, and_true] at eb0
  subst eb0
  have g0 : ∃ l, Rd W s0 l ∧ Byt l := by
    rcases open_ints Try.underlying22 Try.underlying5 (by kernel_rfl) hs0 with ⟨hcs, _⟩ | ⟨x, l, c, zs, hcs, _, hl, hm, hz, _, hcell, hwz⟩
    · simp only [List.cons.injEq, and_true] at hcs
      subst hcs
      exact ⟨[], Rd.nil W, fun x hx => by simp at hx⟩
    · simp only [List.cons.injEq, and_true] at hcs
      subst hcs
      obtain ⟨l, -, y, h⟩ := rd_of_row (w := W) (.inr ⟨x, rfl, hl, hm, by simpa using hz, hcell, hwz⟩)
      exact ⟨l, h, y⟩
  clear hA0 hval0
  refine (walk p0 q0 r0 s0 W g0 wf0 wfq0 wfr0).mono fun e W' ⟨he, bel⟩ => ?_
  subst he
  exact ⟨_, rfl, _, _, _, [], _, [], hW', trodAll_mk1 (shut_bool Try.underlying4 _), (trodAll_cons_mk (Below.trod laidOut (by kernel_rfl) (of_decide_eq_true (by kernel_rfl)) k0 bel lt0) trodAll_mk0), rfl, bel.frame _, fun h => by cases h⟩

theorem over : Rows.fnExactLetterFaultRow.holds Try.pinned (OpenSpec.ofChange Rows.fnExactLetterFaultSpec) :=
  OpenClaim.holds_of_wide 3 Try.f3 rfl rfl rfl rfl rfl rfl rfl ⟨rfl, rfl, rfl, rfl, rfl⟩ rfl rfl rfl rfl rfl (by kernel_rfl) Try.func3 (by kernel_rfl)
    (of_decide_eq_true (by kernel_rfl)) (by unfold Func.isWrapper; first | (rw [if_pos (by decide +kernel)]; kernel_rfl) | (rw [if_neg (by decide +kernel)]; exact ⟨rfl, rfl⟩))
    (fun os started H enc _ => lifted os started H enc)

theorem proved : Rows.FnExactLetterFaultSaid := over
#print axioms proved
end Go.Proofs.Ytckgjghpfjinfak.fnExactLetterFault
