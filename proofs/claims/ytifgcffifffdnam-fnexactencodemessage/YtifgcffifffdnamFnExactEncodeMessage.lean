/-
  At every message the program's EncodeMessage answers as the model's, field by field; it writes into no argument and keeps nothing of one; its answer owns its memory. Conditions: none (of a message of more than 1048576 bytes the law says nothing, by its own text).
-/
import Derived.Test.YtifgcffifffdnamRows
import Derived.WalkKit
import Derived.ProofKit
import Derived.OpenShut
import Derived.ShutString
import Derived.ChangeOld
import Derived.Below
import Derived.Test.YtifgcffifffdnamRng
import Derived.Test.YtifgcffifffdnamEncodeMessageLaw
import Derived.Test.YtifgcffifffdnamEncmW
import Derived.Test.YtifgcffifffdnamMgO

namespace Go.Proofs.Ytifgcffifffdnam.fnExactEncodeMessage
open Go.ChangeShapes Go.WideShapes Go.ChangeAt Go.RowKit Go.Joins
open Go.Proofs.Ytifgcffifffdnam.W
open Go.Proofs.Ytifgcffifffdnam.M
set_option linter.unusedVariables false

theorem own : ownKnob Try.prog.godebug = none := by kernel_rfl
theorem laidOut : laidOutB Try.prog = true := by kernel_rfl

set_option maxRecDepth 100000 in
theorem walk (p0a p0b p0c p0d p0e p0f p0g p0h p0i : Int) (s0 : Value) (w : World) (h0 : ∃ l, Rd w s0 l ∧ Byt l) :
    Calls Try.prog 6 #[.agg #[.int .i64 p0a, .int .i64 p0b, .int .i64 p0c, .int .i64 p0d, .int .i64 p0e, .int .i64 p0f, .int .i64 p0g, .int .i64 p0h, .int .i64 p0i, s0]] w fun e w' => e = .returned (.bool true) ∧ Below w.heap.size w w' := by
  obtain ⟨l0, ha, -⟩ := h0
  obtain ⟨code, hc⟩ := mF_some ⟨p0a, p0b, p0c, p0d, p0e, p0f, p0g, p0h, p0i, l0⟩
  have hl : (emL ⟨p0a, p0b, p0c, p0d, p0e, p0f, p0g, p0h, p0i, l0⟩ code).length ≤ 1048576 := by have := emL_len hc; omega
  exact law_EncodeMessage p0a p0b p0c p0d p0e p0f p0g p0h p0i code l0 _ s0 w hl ha (hid fun w v0 h => (sem p0a p0b p0c p0d p0e p0f p0g p0h p0i code v0 l0 w h hc).mono fun _ _ ⟨v', q1, q2, q3⟩ => ⟨v', q1, q2.rd, q3⟩) (hid fun w v0 h => (iem p0a p0b p0c p0d p0e p0f p0g p0h p0i code v0 l0 w h hc).mono fun _ _ ⟨v', q1, q2, q3⟩ => ⟨v', q1, OB.of q2.x, q3⟩)

set_option maxHeartbeats 2000000 in
set_option maxRecDepth 100000 in
theorem lifted (os : Os) (started : os.Started) (H : Type) (enc : TypeId × Value → H) :
    ReturnsInHanded {} Try.checked os 6 .any (Rows.fnExactEncodeMessageSpec.pre6 enc Try.prog Try.f6 Rows.fnExactEncodeMessageRow.domain false) (Rows.fnExactEncodeMessageSpec.post enc Try.prog Try.f6 false true false false) := by
  refine returnsInHanded_of_change (C := Try.checked) own started (by kernel_rfl) Try.func6
    (ChangeSpec.witness6 (enc := enc) (C := Try.checked) false ⟨#[], #[.agg #[.int .i64 0, .int .i64 0, .int .i64 0, .int .i64 0, .int .i64 0, .int .i64 0, .int .i64 0, .int .i64 0, .int .i64 0, .slice none 0 0]], []⟩ 8 (by kernel_rfl) (by kernel_rfl) (by kernel_rfl) (by kernel_rfl)) ?_
  intro W base args ds gs before hval0 hW hcnd _
  have hval : ∀ (j : Nat) t v, Try.f6.params[j]? = some t → args[j]? = some v → Value.okWide Try.prog W .any base t v := hval0
  have hW' := hW
  obtain ⟨p, q, hA0, hV, rfl, hfz, hnd⟩ := hW
  have hA : DataW.TrodAll enc Try.prog W 0 (fun _ => true) true Try.f6.params.toList args.toList ds p := hA0
  rw [Try.params6] at hA hval
  obtain ⟨v0, vs0, d0, ds0, p0p, tq0, hargs0, rfl, rfl, h0, tr0⟩ := trodAll_cons hA
  obtain ⟨rfl, rfl, rfl⟩ := trodAll_nil tr0
  obtain rfl : args = #[v0] := by cases args; simp_all
  obtain ⟨rfl, rfl⟩ := trodVars_none hV
  have k0 := h0
  have lt0 : ∀ x ∈ p0p, x.block < W.heap.size := by obtain ⟨m, hm⟩ := k0; exact DataW.trod_lt m _ _ _ hm
  obtain ⟨p0a, p0b, p0c, p0d, p0e, p0f, p0g, p0h, p0i, s0, rfl, g0⟩ := Go.Proofs.Ytifgcffifffdnam.W.open_msg (hval 0 40 v0 rfl rfl) h0
  clear hA0 hval0
  refine (walk p0a p0b p0c p0d p0e p0f p0g p0h p0i s0 W g0).mono fun e W' ⟨he, bel⟩ => ?_
  subst he
  exact ⟨_, rfl, _, _, _, [], _, [], hW', trodAll_mk1 (shut_bool Try.underlying4 _), (trodAll_cons_mk (Below.trod laidOut (by kernel_rfl) (of_decide_eq_true (by kernel_rfl)) k0 bel lt0) trodAll_mk0), rfl, bel.frame _, fun h => by cases h⟩

theorem over : Rows.fnExactEncodeMessageRow.holds Try.pinned (OpenSpec.ofChange Rows.fnExactEncodeMessageSpec) :=
  OpenClaim.holds_of_wide 6 Try.f6 rfl rfl rfl rfl rfl rfl rfl ⟨rfl, rfl, rfl, rfl, rfl⟩ rfl rfl rfl rfl rfl (by kernel_rfl) Try.func6 (by kernel_rfl)
    (of_decide_eq_true (by kernel_rfl)) (by unfold Func.isWrapper; first | (rw [if_pos (by decide +kernel)]; kernel_rfl) | (rw [if_neg (by decide +kernel)]; exact ⟨rfl, rfl⟩))
    (fun os started H enc _ => lifted os started H enc)

theorem proved : Rows.FnExactEncodeMessageSaid := over
#print axioms proved
end Go.Proofs.Ytifgcffifffdnam.fnExactEncodeMessage
