/-
  At every key the program's NewRing answers as the model's, field by field; it writes into no argument and keeps nothing of one; its answer owns its memory. Conditions: none (of keys of more than 1048576 bytes the law says nothing, by its own text).
-/
import Derived.Test.YtmamdbmkjipahaiRows
import Derived.WalkKit
import Derived.ProofKit
import Derived.OpenShut
import Derived.ShutString
import Derived.ChangeOld
import Derived.Below
import Derived.Test.YtmamdbmkjipahaiRng
import Derived.Test.YtmamdbmkjipahaiNewRingLaw
import Derived.Test.YtmamdbmkjipahaiSnrW
import Derived.Test.YtmamdbmkjipahaiInrW

namespace Go.Proofs.Ytmamdbmkjipahai.fnExactNewRing
open Go.ChangeShapes Go.WideShapes Go.ChangeAt Go.RowKit Go.Joins
open Go.Proofs.Ytmamdbmkjipahai.W
open Go.Proofs.Ytmamdbmkjipahai.M
set_option linter.unusedVariables false

theorem own : ownKnob Try.prog.godebug = none := by kernel_rfl
theorem laidOut : laidOutB Try.prog = true := by kernel_rfl

set_option maxRecDepth 100000 in
theorem walk (p0 : Int) (s0 : Value) (w : World) (h0 : ∃ l, Rd w s0 l ∧ Byt l) (wf0 : (Lit.int .i64 p0).wf = true) :
    Calls Try.prog 8 #[.agg #[.int .i64 p0, s0]] w fun e w' => e = .returned (.bool true) ∧ Below w.heap.size w w' := by
  obtain ⟨l, ha, -⟩ := h0
  obtain ⟨c, rk, t, hF⟩ := nr_some p0 l
  have hl : t.length + tot t ≤ 1048576 := by
    rcases hF with ⟨-, -, -, rfl⟩ | ⟨h, -, -, rfl⟩
    · simp [tot]
    · obtain ⟨-, -, k16, -, -⟩ := rF_parts h
      have q := (k16 0 (by simp)).2
      simp at q
      simp [tot, q]
  exact law_NewRing p0 c rk l t s0 w hl ha (hid fun w v0 h => snr p0 v0 l c rk t w h hF) (hid fun w v0 h => inr p0 v0 l c rk t w h wf0 hF)

set_option maxHeartbeats 2000000 in
set_option maxRecDepth 100000 in
theorem lifted (os : Os) (started : os.Started) (H : Type) (enc : TypeId × Value → H) :
    ReturnsInHanded {} Try.checked os 8 .any (Rows.fnExactNewRingSpec.pre6 enc Try.prog Try.f8 Rows.fnExactNewRingRow.domain false) (Rows.fnExactNewRingSpec.post enc Try.prog Try.f8 false true false false) := by
  refine returnsInHanded_of_change (C := Try.checked) own started (by kernel_rfl) Try.func8
    (ChangeSpec.witness6 (enc := enc) (C := Try.checked) false ⟨#[], #[.agg #[.int .i64 0, .slice none 0 0]], []⟩ 8 (by kernel_rfl) (by kernel_rfl) (by kernel_rfl) (by kernel_rfl)) ?_
  intro W base args ds gs before hval0 hW hcnd _
  have hval : ∀ (j : Nat) t v, Try.f8.params[j]? = some t → args[j]? = some v → Value.okWide Try.prog W .any base t v := hval0
  have hW' := hW
  obtain ⟨p, q, hA0, hV, rfl, hfz, hnd⟩ := hW
  have hA : DataW.TrodAll enc Try.prog W 0 (fun _ => true) true Try.f8.params.toList args.toList ds p := hA0
  rw [Try.params8] at hA hval
  obtain ⟨v0, vs0, d0, ds0, p0p, tq0, hargs0, rfl, rfl, h0, tr0⟩ := trodAll_cons hA
  obtain ⟨rfl, rfl, rfl⟩ := trodAll_nil tr0
  obtain rfl : args = #[v0] := by cases args; simp_all
  obtain ⟨rfl, rfl⟩ := trodVars_none hV
  have k0 := h0
  have lt0 : ∀ x ∈ p0p, x.block < W.heap.size := by obtain ⟨m, hm⟩ := k0; exact DataW.trod_lt m _ _ _ hm
  obtain ⟨z0, s0, y00, y01, n0, rfl, rfl, rfl, hz0, hs0⟩ := open_agg2 Try.underlying48 (by kernel_rfl) (by kernel_rfl) (hval 0 48 v0 rfl rfl) h0
  obtain ⟨p0, e0, -, wf0⟩ := DataW.trod_int Try.underlying2 hz0
  simp only [List.cons.injEq, and_true] at e0
  subst e0
  have g0 : ∃ l, Rd W s0 l ∧ Byt l := by
    rcases open_ints Try.underlying22 Try.underlying5 (by kernel_rfl) hs0 with ⟨hcs, _⟩ | ⟨x, l, c, zs, hcs, _, hl, hm, hz, _, hcell, hwz⟩
    · simp only [List.cons.injEq, and_true] at hcs
      subst hcs
      exact ⟨[], Rd.nil W, fun x hx => by simp at hx⟩
    · simp only [List.cons.injEq, and_true] at hcs
      subst hcs
      obtain ⟨l, -, y, h⟩ := rd_of_row (w := W) (.inr ⟨x, rfl, hl, hm, by simpa using hz, hcell, hwz⟩)
      exact ⟨l, h, y⟩
  clear hA0 hval0
  refine (walk p0 s0 W g0 wf0).mono fun e W' ⟨he, bel⟩ => ?_
  subst he
  exact ⟨_, rfl, _, _, _, [], _, [], hW', trodAll_mk1 (shut_bool Try.underlying4 _), (trodAll_cons_mk (Below.trod laidOut (by kernel_rfl) (of_decide_eq_true (by kernel_rfl)) k0 bel lt0) trodAll_mk0), rfl, bel.frame _, fun h => by cases h⟩

theorem over : Rows.fnExactNewRingRow.holds Try.pinned (OpenSpec.ofChange Rows.fnExactNewRingSpec) :=
  OpenClaim.holds_of_wide 8 Try.f8 rfl rfl rfl rfl rfl rfl rfl ⟨rfl, rfl, rfl, rfl, rfl⟩ rfl rfl rfl rfl rfl (by kernel_rfl) Try.func8 (by kernel_rfl)
    (of_decide_eq_true (by kernel_rfl)) (by unfold Func.isWrapper; first | (rw [if_pos (by decide +kernel)]; kernel_rfl) | (rw [if_neg (by decide +kernel)]; exact ⟨rfl, rfl⟩))
    (fun os started H enc _ => lifted os started H enc)

theorem proved : Rows.FnExactNewRingSaid := over
#print axioms proved
end Go.Proofs.Ytmamdbmkjipahai.fnExactNewRing
