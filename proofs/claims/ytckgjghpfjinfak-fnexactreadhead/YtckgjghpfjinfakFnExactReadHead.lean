/-
  At all bytes the program's ReadHead answers as the model's, field by field; it writes into no argument and keeps nothing of one; its answer owns its memory. Conditions: none (of more than 1048576 bytes the law says nothing, by its own text).
-/
import Derived.Test.YtckgjghpfjinfakRows
import Derived.WalkKit
import Derived.ProofKit
import Derived.OpenShut
import Derived.ShutString
import Derived.ChangeOld
import Derived.Below
import Derived.Test.YtckgjghpfjinfakRng
import Derived.Test.YtckgjghpfjinfakReadHeadLaw
import Derived.Test.YtckgjghpfjinfakRhW
import Derived.Test.YtckgjghpfjinfakIrhL

namespace Go.Proofs.Ytckgjghpfjinfak.fnExactReadHead
open Go.ChangeShapes Go.WideShapes Go.ChangeAt Go.RowKit Go.Joins
open Go.Proofs.Ytckgjghpfjinfak.W
open Go.Proofs.Ytckgjghpfjinfak.M
set_option linter.unusedVariables false

theorem own : ownKnob Try.prog.godebug = none := by kernel_rfl
theorem laidOut : laidOutB Try.prog = true := by kernel_rfl

set_option maxRecDepth 100000 in
theorem walk (s0 : Value) (w : World) (h0 : ∃ l, Rd w s0 l ∧ Byt l) :
    Calls Try.prog 6 #[s0] w fun e w' => e = .returned (.bool true) ∧ Below w.heap.size w w' := by
  obtain ⟨l, ha, y⟩ := h0
  by_cases hm : l.length ≤ 1048576
  · obtain ⟨c, rk, rs, rc, hR⟩ := rh_some l
    exact law_ReadHead c rk rs rc l [] s0 w (by simp) ha (hid fun w v0 h => (srh v0 l c rk rs rc w h y hm hR).mono fun e w' ⟨he, hB⟩ => ⟨_, he, Rd.nil _, hB⟩) (hid fun w v0 h => (irhd v0 l c rk rs rc w h y hm hR).mono fun e w' ⟨he, hB⟩ => ⟨_, he, OB.nil _ _ _, hB⟩)
  · obtain ⟨a, cap, rfl, -, -, -⟩ := ha.parts
    clear ha
    go_enter Try.func6, Try.ntmps6
    go_wp2
    go_ret
    exact ⟨rfl, Below.refl _ _⟩

set_option maxRecDepth 100000 in
theorem lifted (os : Os) (started : os.Started) (H : Type) (enc : TypeId × Value → H) :
    ReturnsInHanded {} Try.checked os 6 .any (Rows.fnExactReadHeadSpec.pre6 enc Try.prog Try.f6 Rows.fnExactReadHeadRow.domain false) (Rows.fnExactReadHeadSpec.post enc Try.prog Try.f6 false true false false) := by
  refine returnsInHanded_of_change (C := Try.checked) own started (by kernel_rfl) Try.func6
    (ChangeSpec.witness6 (enc := enc) (C := Try.checked) false ⟨#[], #[.slice none 0 0], []⟩ 8 (by kernel_rfl) (by kernel_rfl) (by kernel_rfl) (by kernel_rfl)) ?_
  intro W base args ds gs before hval0 hW hcnd _
  have hval : ∀ (j : Nat) t v, Try.f6.params[j]? = some t → args[j]? = some v → Value.okWide Try.prog W .any base t v := hval0
  have hW' := hW
  obtain ⟨p, q, hA0, hV, rfl, hfz, hnd⟩ := hW
  have hA : DataW.TrodAll enc Try.prog W 0 (fun _ => true) true Try.f6.params.toList args.toList ds p := hA0
  rw [Try.params6] at hA hval
  obtain ⟨v0, vs0, d0, ds0, p0p, q0, hargs0, rfl, rfl, h0, r0⟩ := trodAll_cons hA
  obtain ⟨rfl, rfl, rfl⟩ := trodAll_nil r0
  obtain rfl : args = #[v0] := by cases args; simp_all
  obtain ⟨rfl, rfl⟩ := trodVars_none hV
  have k0 := h0
  have lt0 : ∀ x ∈ p0p, x.block < W.heap.size := by obtain ⟨m, hm⟩ := k0; exact DataW.trod_lt m _ _ _ hm
  obtain ⟨n0, hs0⟩ := h0
  have g0 : ∃ l, Rd W v0 l ∧ Byt l := by
    obtain ⟨a, b, c, hv⟩ := okWide_slice Try.underlying22 (hval 0 22 v0 rfl rfl)
    subst hv
    rcases open_ints Try.underlying22 Try.underlying5 (by kernel_rfl) hs0 with ⟨hcs, _⟩ | ⟨x, l, c, zs, hcs, _, hl, hm, hz, _, hcell, hwz⟩
    · simp only [Value.cells, List.cons.injEq, and_true] at hcs
      rw [hcs]
      exact ⟨[], Rd.nil W, fun x hx => by simp at hx⟩
    · simp only [Value.cells, List.cons.injEq, and_true] at hcs
      rw [hcs]
      obtain ⟨l, -, y, h⟩ := rd_of_row (w := W) (.inr ⟨x, rfl, hl, hm, by simpa using hz, hcell, hwz⟩)
      exact ⟨l, h, y⟩
  clear hA0 hval0
  refine (walk v0 W g0).mono fun e W' ⟨he, bel⟩ => ?_
  subst he
  exact ⟨_, rfl, _, _, _, [], _, [], hW', trodAll_mk1 (shut_bool Try.underlying4 _), (trodAll_cons_mk (Below.trod laidOut (by kernel_rfl) (of_decide_eq_true (by kernel_rfl)) k0 bel lt0) trodAll_mk0), rfl, bel.frame _, fun h => by cases h⟩

theorem over : Rows.fnExactReadHeadRow.holds Try.pinned (OpenSpec.ofChange Rows.fnExactReadHeadSpec) :=
  OpenClaim.holds_of_wide 6 Try.f6 rfl rfl rfl rfl rfl rfl rfl ⟨rfl, rfl, rfl, rfl, rfl⟩ rfl rfl rfl rfl rfl (by kernel_rfl) Try.func6 (by kernel_rfl)
    (of_decide_eq_true (by kernel_rfl)) (by unfold Func.isWrapper; first | (rw [if_pos (by decide +kernel)]; kernel_rfl) | (rw [if_neg (by decide +kernel)]; exact ⟨rfl, rfl⟩))
    (fun os started H enc _ => lifted os started H enc)

theorem proved : Rows.FnExactReadHeadSaid := over
#print axioms proved
end Go.Proofs.Ytckgjghpfjinfak.fnExactReadHead
