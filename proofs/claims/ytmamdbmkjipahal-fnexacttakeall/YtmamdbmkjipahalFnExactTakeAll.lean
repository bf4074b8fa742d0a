/-
  At every window and list of numbers the program's TakeAll answers as the model's, field by field; it writes into no argument and keeps nothing of one; its answer owns its memory. Conditions: none (of windows, and of lists, of more than 1048576 numbers the law says nothing, by its own text).
-/
import Derived.Test.YtmamdbmkjipahalRows
import Derived.WalkKit
import Derived.ProofKit
import Derived.OpenShut
import Derived.ShutString
import Derived.ChangeOld
import Derived.Below
import Derived.Test.YtmamdbmkjipahalSlZ
import Derived.Deep.SlicePairs
import Derived.Lib.SmallJoins
import Derived.Test.YtmamdbmkjipahalTakeAllLaw
import Derived.Test.YtmamdbmkjipahalStaW
import Derived.Test.YtmamdbmkjipahalItaW

namespace Go.Proofs.Ytmamdbmkjipahal.fnExactTakeAll
open Go.ChangeShapes Go.WideShapes Go.ChangeAt Go.RowKit Go.Joins
open Go.Proofs.Ytmamdbmkjipahal.W
open Go.Proofs.Ytmamdbmkjipahal.M
set_option linter.unusedVariables false

theorem own : ownKnob Try.prog.godebug = none := by kernel_rfl
theorem laidOut : laidOutB Try.prog = true := by kernel_rfl

set_option maxRecDepth 100000 in
theorem walk (p0 : Int) (s0 : Value) (s1 : Value) (w : World) (h0 : ∃ l, RdZ w s0 l ∧ WfZ l) (wf0 : (Lit.int .i64 p0).wf = true) (h1 : ∃ l, RdZ w s1 l ∧ WfZ l) :
    Calls Try.prog 8 #[.agg #[.int .i64 p0, s0], s1] w fun e w' => e = .returned (.bool true) ∧ Below w.heap.size w w' := by
  obtain ⟨l, ha, hy⟩ := h0
  obtain ⟨zs, hz, -⟩ := h1
  obtain ⟨c, lr, hF⟩ := ta_some p0 l zs
  have hl : lr.length ≤ 1048576 := Nat.le_trans hF.len (by omega)
  exact law_TakeAll p0 c l zs lr s0 s1 w hl ha hz (hid fun w v0 v1 hk hk1 h g => sta p0 v0 v1 l zs c lr w h g hk hF) (hid fun w v0 v1 hk hk1 h g => ita p0 v0 v1 l zs c lr w h g hy hk hF)

set_option maxHeartbeats 2000000 in
set_option maxRecDepth 100000 in
theorem lifted (os : Os) (started : os.Started) (H : Type) (enc : TypeId × Value → H) :
    ReturnsInHanded {} Try.checked os 8 .any (Rows.fnExactTakeAllSpec.pre6 enc Try.prog Try.f8 Rows.fnExactTakeAllRow.domain false) (Rows.fnExactTakeAllSpec.post enc Try.prog Try.f8 false true false false) := by
  refine returnsInHanded_of_change (C := Try.checked) own started (by kernel_rfl) Try.func8
    (ChangeSpec.witness6 (enc := enc) (C := Try.checked) false ⟨#[], #[.agg #[.int .i64 0, .slice none 0 0], .slice none 0 0], []⟩ 8 (by kernel_rfl) (by kernel_rfl) (by kernel_rfl) (by kernel_rfl)) ?_
  intro W base args ds gs before hval0 hW hcnd _
  have hval : ∀ (j : Nat) t v, Try.f8.params[j]? = some t → args[j]? = some v → Value.okWide Try.prog W .any base t v := hval0
  have hW' := hW
  obtain ⟨p, q, hA0, hV, rfl, hfz, hnd⟩ := hW
  have hA : DataW.TrodAll enc Try.prog W 0 (fun _ => true) true Try.f8.params.toList args.toList ds p := hA0
  rw [Try.params8] at hA hval
  obtain ⟨v0, vs0, d0, ds0, p0p, tq0, hargs0, rfl, rfl, h0, tr0⟩ := trodAll_cons hA
  obtain ⟨v1, vs1, d1, ds1, p1p, tq1, hargs1, rfl, rfl, h1, tr1⟩ := trodAll_cons tr0
  obtain ⟨rfl, rfl, rfl⟩ := trodAll_nil tr1
  obtain rfl : args = #[v0, v1] := by cases args; simp_all
  obtain ⟨rfl, rfl⟩ := trodVars_none hV
  have k0 := h0
  have lt0 : ∀ x ∈ p0p, x.block < W.heap.size := by obtain ⟨m, hm⟩ := k0; exact DataW.trod_lt m _ _ _ hm
  obtain ⟨z0, s0, y00, y01, n0, rfl, rfl, rfl, hz0, hs0⟩ := open_agg2 Try.underlying32 (by kernel_rfl) (by kernel_rfl) (hval 0 32 v0 rfl rfl) h0
  obtain ⟨p0, e0, -, wf0⟩ := DataW.trod_int Try.underlying2 hz0
  simp only [List.cons.injEq, and_true] at e0
  subst e0
  have g0 : ∃ l, RdZ W s0 l ∧ WfZ l := by
    rcases open_ints Try.underlying30 Try.underlying2 (by kernel_rfl) hs0 with ⟨hcs, _⟩ | ⟨x, l, c, zs, hcs, _, hl, hm, hz, _, hcell, hwz⟩
    · simp only [List.cons.injEq, and_true] at hcs
      subst hcs
      exact ⟨[], RdZ.nil W, fun x hx => by simp at hx⟩
    · simp only [List.cons.injEq, and_true] at hcs
      subst hcs
      obtain ⟨l, -, y, h⟩ := rdZ_of_row (w := W) (.inr ⟨x, rfl, hl, hm, by simpa using hz, hcell, hwz⟩)
      exact ⟨l, h, y⟩
  have k1 := h1
  have lt1 : ∀ x ∈ p1p, x.block < W.heap.size := by obtain ⟨m, hm⟩ := k1; exact DataW.trod_lt m _ _ _ hm
  obtain ⟨n1, hs1⟩ := h1
  have g1 : ∃ l, RdZ W v1 l ∧ WfZ l := by
    obtain ⟨a, b, c, hv⟩ := okWide_slice Try.underlying30 (hval 1 30 v1 rfl rfl)
    subst hv
    rcases open_ints Try.underlying30 Try.underlying2 (by kernel_rfl) hs1 with ⟨hcs, _⟩ | ⟨x, l, c, zs, hcs, _, hl, hm, hz, _, hcell, hwz⟩
    · simp only [Value.cells, List.cons.injEq, and_true] at hcs
      rw [hcs]
      exact ⟨[], RdZ.nil W, fun x hx => by simp at hx⟩
    · simp only [Value.cells, List.cons.injEq, and_true] at hcs
      rw [hcs]
      obtain ⟨l, -, y, h⟩ := rdZ_of_row (w := W) (.inr ⟨x, rfl, hl, hm, by simpa using hz, hcell, hwz⟩)
      exact ⟨l, h, y⟩
  clear hA0 hval0
  refine (walk p0 s0 v1 W g0 wf0 g1).mono fun e W' ⟨he, bel⟩ => ?_
  subst he
  exact ⟨_, rfl, _, _, _, [], _, [], hW', trodAll_mk1 (shut_bool Try.underlying4 _), (trodAll_cons_mk (Below.trod laidOut (by kernel_rfl) (of_decide_eq_true (by kernel_rfl)) k0 bel lt0) (trodAll_cons_mk (Below.trod laidOut (by kernel_rfl) (of_decide_eq_true (by kernel_rfl)) k1 bel lt1) trodAll_mk0)), rfl, bel.frame _, fun h => by cases h⟩

theorem over : Rows.fnExactTakeAllRow.holds Try.pinned (OpenSpec.ofChange Rows.fnExactTakeAllSpec) :=
  OpenClaim.holds_of_wide 8 Try.f8 rfl rfl rfl rfl rfl rfl rfl ⟨rfl, rfl, rfl, rfl, rfl⟩ rfl rfl rfl rfl rfl (by kernel_rfl) Try.func8 (by kernel_rfl)
    (of_decide_eq_true (by kernel_rfl)) (by unfold Func.isWrapper; first | (rw [if_pos (by decide +kernel)]; kernel_rfl) | (rw [if_neg (by decide +kernel)]; exact ⟨rfl, rfl⟩))
    (fun os started H enc _ => lifted os started H enc)

theorem proved : Rows.FnExactTakeAllSaid := over
#print axioms proved
end Go.Proofs.Ytmamdbmkjipahal.fnExactTakeAll
