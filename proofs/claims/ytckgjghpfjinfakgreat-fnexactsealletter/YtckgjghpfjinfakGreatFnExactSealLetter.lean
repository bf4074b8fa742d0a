/-
  At every ring and letter the program's SealLetter answers as the model's, field by field; it writes into no argument and keeps nothing of one; its answer owns its memory. Conditions: none (of more than 1048576 keys and bytes together the law says nothing, by its own text).
-/
import Derived.Test.YtckgjghpfjinfakGreatRows
import Derived.WalkKit
import Derived.ProofKit
import Derived.OpenShut
import Derived.ShutString
import Derived.ChangeOld
import Derived.Below
import Derived.Test.YtckgjghpfjinfakGreatRng
import Derived.Test.YtckgjghpfjinfakGreatSealLetterLaw
import Derived.Test.YtckgjghpfjinfakGreatGESealLetter2
import Derived.Test.YtckgjghpfjinfakGreatGESealLetter5

namespace Go.Proofs.YtckgjghpfjinfakGreat.fnExactSealLetter
open Go.ChangeShapes Go.WideShapes Go.ChangeAt Go.RowKit Go.Joins
open Go.Proofs.YtckgjghpfjinfakGreat.W
open Go.Proofs.YtckgjghpfjinfakGreat.M
set_option linter.unusedVariables false

theorem own : ownKnob Tryz.prog.godebug = none := by kernel_rfl
theorem laidOut : laidOutB Tryz.prog = true := by kernel_rfl

set_option maxRecDepth 100000 in
theorem walk (p0 : Int) (s0 : Value) (p1 q1 r1 : Int) (s1 : Value) (w : World) (h0 : ∃ ks, RdK w s0 ks ∧ KBy ks) (wf0 : (Lit.int .i64 p0).wf = true) (h1 : ∃ l, Rd w s1 l ∧ Byt l) (wf1 : (Lit.int .i64 p1).wf = true) (wfq1 : (Lit.int .i64 q1).wf = true) (wfr1 : (Lit.int .i64 r1).wf = true) :
    Calls Tryz.prog 3 #[.agg #[.int .i64 p0, s0], .agg #[.int .i64 p1, .int .i64 q1, .int .i64 r1, s1]] w fun e w' => e = .returned (.bool true) ∧ Below w.heap.size w w' := by
  obtain ⟨ks, ha, yk⟩ := h0
  obtain ⟨l, hd, yl⟩ := h1
  obtain ⟨c, t, hF⟩ := sl_some p0 ks p1 q1 r1 l
  have hl : t.length ≤ 1048576 := by
    rcases hF with ⟨-, -, rfl⟩ | ⟨-, -, -, rfl⟩ | ⟨-, -, -, -, rfl⟩ | ⟨-, hz, i, hi, -, -, rfl⟩
    · simp
    · simp
    · simp
    · have := (lF_zero hz).2
      rw [sB, List.length_append, headL_len, sld_len _ _ _ _ (nonceL_len _ _)]
      omega
  exact law_SealLetter p0 p1 q1 r1 c ks l t s0 s1 w hl ha hd (hid fun w v0 v1 h h' => ssealL p0 p1 q1 r1 v0 v1 ks l c t w h h' yk yl hF) (hid fun w v0 v1 h h' => isealL p0 p1 q1 r1 v0 v1 ks l c t w h h' yk yl wf0 hF)

set_option maxRecDepth 100000 in
theorem lifted (os : Os) (started : os.Started) (H : Type) (enc : TypeId × Value → H) :
    ReturnsInHanded {} Tryz.checked os 3 .any (Rows.fnExactSealLetterSpec.pre6 enc Tryz.prog Tryz.f3 Rows.fnExactSealLetterRow.domain false) (Rows.fnExactSealLetterSpec.post enc Tryz.prog Tryz.f3 false true false false) := by
  refine returnsInHanded_of_change (C := Tryz.checked) own started (by kernel_rfl) Tryz.func3
    (ChangeSpec.witness6 (enc := enc) (C := Tryz.checked) false ⟨#[], #[.agg #[.int .i64 0, .slice none 0 0], .agg #[.int .i64 0, .int .i64 0, .int .i64 0, .slice none 0 0]], []⟩ 8 (by kernel_rfl) (by kernel_rfl) (by kernel_rfl) (by kernel_rfl)) ?_
  intro W base args ds gs before hval0 hW hcnd _
  have hval : ∀ (j : Nat) t v, Tryz.f3.params[j]? = some t → args[j]? = some v → Value.okWide Tryz.prog W .any base t v := hval0
  have hW' := hW
  obtain ⟨p, q, hA0, hV, rfl, hfz, hnd⟩ := hW
  have hA : DataW.TrodAll enc Tryz.prog W 0 (fun _ => true) true Tryz.f3.params.toList args.toList ds p := hA0
  rw [Tryz.params3] at hA hval
  obtain ⟨v0, vs0, d0, ds0, p0p, q0, hargs0, rfl, rfl, h0, r0⟩ := trodAll_cons hA
  obtain ⟨v1, vs1, d1, ds1, p1p, q1, hargs1, rfl, rfl, h1, r1⟩ := trodAll_cons r0
  obtain ⟨rfl, rfl, rfl⟩ := trodAll_nil r1
  obtain rfl : args = #[v0, v1] := by cases args; simp_all
  obtain ⟨rfl, rfl⟩ := trodVars_none hV
  have k0 := h0
  have lt0 : ∀ x ∈ p0p, x.block < W.heap.size := by obtain ⟨m, hm⟩ := k0; exact DataW.trod_lt m _ _ _ hm
  obtain ⟨z0, s0, y00, y01, n0, rfl, rfl, rfl, hz0, hs0⟩ := open_agg2 Tryz.underlying24 (by kernel_rfl) (by kernel_rfl) (hval 0 24 v0 rfl rfl) h0
  obtain ⟨p0, e0, -, wf0⟩ := DataW.trod_int Tryz.underlying2 hz0
  simp only [List.cons.injEq, and_true] at e0
  subst e0
  have g0 : ∃ ks, RdK W s0 ks ∧ KBy ks := rdK_of Tryz.underlying22 Tryz.underlying79 (by kernel_rfl) rfl rfl (by kernel_rfl) (by kernel_rfl) Tryz.underlying2 Tryz.underlying25 Tryz.underlying5 (by kernel_rfl) hs0
  have k1 := h1
  have lt1 : ∀ x ∈ p1p, x.block < W.heap.size := by obtain ⟨m, hm⟩ := k1; exact DataW.trod_lt m _ _ _ hm
  obtain ⟨z1, za1, zb1, s1, y10, y11, y12, y13, n1, rfl, rfl, rfl, hz1, hza1, hzb1, hs1⟩ := open_agg4 Tryz.underlying27 (by kernel_rfl) (by kernel_rfl) (hval 1 27 v1 rfl rfl) h1
  obtain ⟨p1, e1, -, wf1⟩ := DataW.trod_int Tryz.underlying2 hz1
  simp only [List.cons.injEq, and_true] at e1
  subst e1
  obtain ⟨q1, ea1, -, wfq1⟩ := DataW.trod_int Tryz.underlying2 hza1
  simp only [List.cons.injEq, and_true] at ea1
  subst ea1
  obtain ⟨r1, eb1, -, wfr1⟩ := DataW.trod_int Tryz.underlying2 hzb1
  simp only [List.cons.injEq, and_true] at eb1
  subst eb1
  have g1 : ∃ l, Rd W s1 l ∧ Byt l := by
    rcases open_ints Tryz.underlying25 Tryz.underlying5 (by kernel_rfl) hs1 with ⟨hcs, _⟩ | ⟨x, l, c, zs, hcs, _, hl, hm, hz, _, hcell, hwz⟩
    · simp only [List.cons.injEq, and_true] at hcs
      subst hcs
      exact ⟨[], Rd.nil W, fun x hx => by simp at hx⟩
    · simp only [List.cons.injEq, and_true] at hcs
      subst hcs
      obtain ⟨l, -, y, h⟩ := rd_of_row (w := W) (.inr ⟨x, rfl, hl, hm, by simpa using hz, hcell, hwz⟩)
      exact ⟨l, h, y⟩
  clear hA0 hval0
  refine (walk p0 s0 p1 q1 r1 s1 W g0 wf0 g1 wf1 wfq1 wfr1).mono fun e W' ⟨he, bel⟩ => ?_
  subst he
  exact ⟨_, rfl, _, _, _, [], _, [], hW', trodAll_mk1 (shut_bool Tryz.underlying4 _), (trodAll_cons_mk (Below.trod laidOut (by kernel_rfl) (of_decide_eq_true (by kernel_rfl)) k0 bel lt0) (trodAll_cons_mk (Below.trod laidOut (by kernel_rfl) (of_decide_eq_true (by kernel_rfl)) k1 bel lt1) trodAll_mk0)), rfl, bel.frame _, fun h => by cases h⟩

theorem over : Rows.fnExactSealLetterRow.holds Tryz.pinned (OpenSpec.ofChange Rows.fnExactSealLetterSpec) :=
  OpenClaim.holds_of_wide 3 Tryz.f3 rfl rfl rfl rfl rfl rfl rfl ⟨rfl, rfl, rfl, rfl, rfl⟩ rfl rfl rfl rfl rfl (by kernel_rfl) Tryz.func3 (by kernel_rfl)
    (of_decide_eq_true (by kernel_rfl)) (by unfold Func.isWrapper; first | (rw [if_pos (by decide +kernel)]; kernel_rfl) | (rw [if_neg (by decide +kernel)]; exact ⟨rfl, rfl⟩))
    (fun os started H enc _ => lifted os started H enc)

theorem proved : Rows.FnExactSealLetterSaid := over
#print axioms proved
end Go.Proofs.YtckgjghpfjinfakGreat.fnExactSealLetter
