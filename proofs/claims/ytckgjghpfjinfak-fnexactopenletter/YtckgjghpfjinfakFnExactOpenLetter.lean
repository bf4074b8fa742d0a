/-
  At every ring and all bytes the program's OpenLetter answers as the model's, field by field; it writes into no argument and keeps nothing of one; its answer owns its memory. Conditions: none (of more than 1048576 keys and bytes together, or bytes, the law says nothing, by its own text).
-/
import Derived.Test.YtckgjghpfjinfakRows
import Derived.WalkKit
import Derived.ProofKit
import Derived.OpenShut
import Derived.ShutString
import Derived.ChangeOld
import Derived.Below
import Derived.Test.YtckgjghpfjinfakRng
import Derived.Test.YtckgjghpfjinfakOpenLetterLaw
import Derived.Test.YtckgjghpfjinfakGEOpenLetter2
import Derived.Test.YtckgjghpfjinfakGEOpenLetter6

namespace Go.Proofs.Ytckgjghpfjinfak.fnExactOpenLetter
open Go.ChangeShapes Go.WideShapes Go.ChangeAt Go.RowKit Go.Joins
open Go.Proofs.Ytckgjghpfjinfak.W
open Go.Proofs.Ytckgjghpfjinfak.M
set_option linter.unusedVariables false

theorem own : ownKnob Try.prog.godebug = none := by kernel_rfl
theorem laidOut : laidOutB Try.prog = true := by kernel_rfl

set_option maxRecDepth 100000 in
theorem walk (p0 : Int) (s0 : Value) (s1 : Value) (w : World) (h0 : ∃ ks, RdK w s0 ks ∧ KBy ks) (wf0 : (Lit.int .i64 p0).wf = true) (h1 : ∃ l, Rd w s1 l ∧ Byt l) :
    Calls Try.prog 7 #[.agg #[.int .i64 p0, s0], s1] w fun e w' => e = .returned (.bool true) ∧ Below w.heap.size w w' := by
  obtain ⟨ks, ha, yk⟩ := h0
  obtain ⟨l, hd, yl⟩ := h1
  obtain ⟨hc, hk, hs, hn, hR⟩ := rh_some l
  obtain ⟨c, rk, rs, rc, t, hF⟩ := ol_some p0 ks l hc hk hs hn
  have hl : t.length ≤ 1048576 := by
    rcases hF with ⟨-, -, -, -, -, rfl⟩ | ⟨-, -, -, -, -, -, rfl⟩ | ⟨-, -, -, -, -, -, -, rfl⟩ | ⟨-, -, -, -, -, -, -, -, rfl⟩ | ⟨-, -, -, i, hi, -, -, -, -, -, -, rfl⟩ | ⟨-, -, -, i, hi, -, -, -, -, -, -, rfl⟩
    · simp
    · simp
    · simp
    · simp
    · simp
    · exact Nat.le_trans (opB_len _ _ _ _) (by omega)
  by_cases hm : l.length ≤ 1048576
  · exact law_OpenLetter p0 c rk rs rc ks l t s0 s1 w hl ha hd (hid fun w v0 v1 h h' => sol p0 v0 v1 ks l hc hk hs hn c rk rs rc t w h h' yk yl hm hR hF) (hid fun w v0 v1 h h' => iol p0 v0 v1 ks l hc hk hs hn c rk rs rc t w h h' yk yl hm wf0 hR hF)
  · obtain ⟨a, cap, rfl, -, -, -⟩ := ha.parts
    obtain ⟨b, cap2, rfl, -, -, -⟩ := hd.parts
    clear ha hd
    go_enter Try.func7, Try.ntmps7
    go_wp2
    go_ret
    exact ⟨rfl, by first | exact Below.refl _ _ | exact Go.Proofs.Ytckgjghpfjinfak.M.below_alloc1 _ _⟩

set_option maxRecDepth 100000 in
theorem lifted (os : Os) (started : os.Started) (H : Type) (enc : TypeId × Value → H) :
    ReturnsInHanded {} Try.checked os 7 .any (Rows.fnExactOpenLetterSpec.pre6 enc Try.prog Try.f7 Rows.fnExactOpenLetterRow.domain false) (Rows.fnExactOpenLetterSpec.post enc Try.prog Try.f7 false true false false) := by
  refine returnsInHanded_of_change (C := Try.checked) own started (by kernel_rfl) Try.func7
    (ChangeSpec.witness6 (enc := enc) (C := Try.checked) false ⟨#[], #[.agg #[.int .i64 0, .slice none 0 0], .slice none 0 0], []⟩ 8 (by kernel_rfl) (by kernel_rfl) (by kernel_rfl) (by kernel_rfl)) ?_
  intro W base args ds gs before hval0 hW hcnd _
  have hval : ∀ (j : Nat) t v, Try.f7.params[j]? = some t → args[j]? = some v → Value.okWide Try.prog W .any base t v := hval0
  have hW' := hW
  obtain ⟨p, q, hA0, hV, rfl, hfz, hnd⟩ := hW
  have hA : DataW.TrodAll enc Try.prog W 0 (fun _ => true) true Try.f7.params.toList args.toList ds p := hA0
  rw [Try.params7] at hA hval
  obtain ⟨v0, vs0, d0, ds0, p0p, q0, hargs0, rfl, rfl, h0, r0⟩ := trodAll_cons hA
  obtain ⟨v1, vs1, d1, ds1, p1p, q1, hargs1, rfl, rfl, h1, r1⟩ := trodAll_cons r0
  obtain ⟨rfl, rfl, rfl⟩ := trodAll_nil r1
  obtain rfl : args = #[v0, v1] := by cases args; simp_all
  obtain ⟨rfl, rfl⟩ := trodVars_none hV
  have k0 := h0
  have lt0 : ∀ x ∈ p0p, x.block < W.heap.size := by obtain ⟨m, hm⟩ := k0; exact DataW.trod_lt m _ _ _ hm
  obtain ⟨z0, s0, y00, y01, n0, rfl, rfl, rfl, hz0, hs0⟩ := open_agg2 Try.underlying50 (by kernel_rfl) (by kernel_rfl) (hval 0 50 v0 rfl rfl) h0
  obtain ⟨p0, e0, -, wf0⟩ := DataW.trod_int Try.underlying2 hz0
  simp only [List.cons.injEq, and_true] at e0
  subst e0
  have g0 : ∃ ks, RdK W s0 ks ∧ KBy ks := rdK_of Try.underlying48 Try.underlying106 (by kernel_rfl) rfl rfl (by kernel_rfl) (by kernel_rfl) Try.underlying2 Try.underlying22 Try.underlying5 (by kernel_rfl) hs0
  have k1 := h1
  have lt1 : ∀ x ∈ p1p, x.block < W.heap.size := by obtain ⟨m, hm⟩ := k1; exact DataW.trod_lt m _ _ _ hm
  obtain ⟨n1, hs1⟩ := h1
  have g1 : ∃ l, Rd W v1 l ∧ Byt l := by
    obtain ⟨a, b, c, hv⟩ := okWide_slice Try.underlying22 (hval 1 22 v1 rfl rfl)
    subst hv
    rcases open_ints Try.underlying22 Try.underlying5 (by kernel_rfl) hs1 with ⟨hcs, _⟩ | ⟨x, l, c, zs, hcs, _, hl, hm, hz, _, hcell, hwz⟩
    · simp only [Value.cells, List.cons.injEq, and_true] at hcs
      rw [hcs]
      exact ⟨[], Rd.nil W, fun x hx => by simp at hx⟩
    · simp only [Value.cells, List.cons.injEq, and_true] at hcs
      rw [hcs]
      obtain ⟨l, -, y, h⟩ := rd_of_row (w := W) (.inr ⟨x, rfl, hl, hm, by simpa using hz, hcell, hwz⟩)
      exact ⟨l, h, y⟩
  clear hA0 hval0
  refine (walk p0 s0 v1 W g0 wf0 g1).mono fun e W' ⟨he, bel⟩ => ?_
  subst he
  exact ⟨_, rfl, _, _, _, [], _, [], hW', trodAll_mk1 (shut_bool Try.underlying4 _), (trodAll_cons_mk (Below.trod laidOut (by kernel_rfl) (of_decide_eq_true (by kernel_rfl)) k0 bel lt0) (trodAll_cons_mk (Below.trod laidOut (by kernel_rfl) (of_decide_eq_true (by kernel_rfl)) k1 bel lt1) trodAll_mk0)), rfl, bel.frame _, fun h => by cases h⟩

theorem over : Rows.fnExactOpenLetterRow.holds Try.pinned (OpenSpec.ofChange Rows.fnExactOpenLetterSpec) :=
  OpenClaim.holds_of_wide 7 Try.f7 rfl rfl rfl rfl rfl rfl rfl ⟨rfl, rfl, rfl, rfl, rfl⟩ rfl rfl rfl rfl rfl (by kernel_rfl) Try.func7 (by kernel_rfl)
    (of_decide_eq_true (by kernel_rfl)) (by unfold Func.isWrapper; first | (rw [if_pos (by decide +kernel)]; kernel_rfl) | (rw [if_neg (by decide +kernel)]; exact ⟨rfl, rfl⟩))
    (fun os started H enc _ => lifted os started H enc)

theorem proved : Rows.FnExactOpenLetterSaid := over
#print axioms proved
end Go.Proofs.Ytckgjghpfjinfak.fnExactOpenLetter
