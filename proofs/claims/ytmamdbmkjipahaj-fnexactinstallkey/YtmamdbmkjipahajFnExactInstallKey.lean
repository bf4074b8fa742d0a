/-
  At every ring and key the program's InstallKey answers as the model's, field by field; it writes into no argument and keeps nothing of one; its answer owns its memory. Conditions: none (of rings and keys of more than 1048576 keys and bytes together the law says nothing, by its own text).
-/
import Derived.Test.YtmamdbmkjipahajRows
import Derived.WalkKit
import Derived.ProofKit
import Derived.OpenShut
import Derived.ShutString
import Derived.ChangeOld
import Derived.Below
import Derived.Test.YtmamdbmkjipahajRng
import Derived.Test.YtmamdbmkjipahajInstallKeyLaw
import Derived.Test.YtmamdbmkjipahajSikW
import Derived.Test.YtmamdbmkjipahajGEInstallKey1
import Derived.Test.YtmamdbmkjipahajUkF

namespace Go.Proofs.Ytmamdbmkjipahaj.fnExactInstallKey
open Go.ChangeShapes Go.WideShapes Go.ChangeAt Go.RowKit Go.Joins
open Go.Proofs.Ytmamdbmkjipahaj.W
open Go.Proofs.Ytmamdbmkjipahaj.M
set_option linter.unusedVariables false

theorem own : ownKnob Try.prog.godebug = none := by kernel_rfl
theorem laidOut : laidOutB Try.prog = true := by kernel_rfl

set_option maxRecDepth 100000 in
theorem walk (p0 : Int) (s0 : Value) (p1 : Int) (s1 : Value) (w : World) (h0 : ∃ ks, RdK w s0 ks ∧ KBy ks) (wf0 : (Lit.int .i64 p0).wf = true) (h1 : ∃ l, Rd w s1 l ∧ Byt l) (wf1 : (Lit.int .i64 p1).wf = true) :
    Calls Try.prog 4 #[.agg #[.int .i64 p0, s0], .agg #[.int .i64 p1, s1]] w fun e w' => e = .returned (.bool true) ∧ Below w.heap.size w w' := by
  obtain ⟨ks, ha, -⟩ := h0
  obtain ⟨x, hx, -⟩ := h1
  obtain ⟨c, rk, l, hF⟩ := ik_some p0 ks (p1, x)
  have hl : l.length + tot l ≤ 1048576 := by
    rcases hF with ⟨-, -, -, rfl⟩ | ⟨-, -, -, -, rfl⟩ | ⟨-, -, -, -, -, rfl⟩ | ⟨-, -, -, -, -, -, rfl⟩ | ⟨h, hk, -, h3, -, -, rfl⟩
    · simp [tot]
    · simp [tot]
    · simp [tot]
    · simp [tot]
    · obtain ⟨-, k3, k16, -, -⟩ := rF_parts h
      have q1 := insK_len (p1, x) ks
      have q2 := tot_16 (insK (p1, x) ks) (fun k hk' => by
        rcases (mem_insK _ _ _).1 hk' with e | e
        · rw [e]; exact (kF_ok hk).2
        · obtain ⟨i, hi, e⟩ := List.getElem_of_mem e
          rw [← e]
          exact (k16 i hi).2)
      omega
  exact law_InstallKey p0 p1 c rk ks x l s0 s1 w hl ha hx (hid fun w v0 v1 h h' => sik p0 p1 v0 v1 ks x c rk l w h h' hF) (hid fun w v0 v1 h h' => iik p0 p1 c rk v0 v1 ks l x w h h' wf0 wf1 hF)

set_option maxHeartbeats 2000000 in
set_option maxRecDepth 100000 in
theorem lifted (os : Os) (started : os.Started) (H : Type) (enc : TypeId × Value → H) :
    ReturnsInHanded {} Try.checked os 4 .any (Rows.fnExactInstallKeySpec.pre6 enc Try.prog Try.f4 Rows.fnExactInstallKeyRow.domain false) (Rows.fnExactInstallKeySpec.post enc Try.prog Try.f4 false true false false) := by
  refine returnsInHanded_of_change (C := Try.checked) own started (by kernel_rfl) Try.func4
    (ChangeSpec.witness6 (enc := enc) (C := Try.checked) false ⟨#[], #[.agg #[.int .i64 0, .slice none 0 0], .agg #[.int .i64 0, .slice none 0 0]], []⟩ 8 (by kernel_rfl) (by kernel_rfl) (by kernel_rfl) (by kernel_rfl)) ?_
  intro W base args ds gs before hval0 hW hcnd _
  have hval : ∀ (j : Nat) t v, Try.f4.params[j]? = some t → args[j]? = some v → Value.okWide Try.prog W .any base t v := hval0
  have hW' := hW
  obtain ⟨p, q, hA0, hV, rfl, hfz, hnd⟩ := hW
  have hA : DataW.TrodAll enc Try.prog W 0 (fun _ => true) true Try.f4.params.toList args.toList ds p := hA0
  rw [Try.params4] at hA hval
  obtain ⟨v0, vs0, d0, ds0, p0p, tq0, hargs0, rfl, rfl, h0, tr0⟩ := trodAll_cons hA
  obtain ⟨v1, vs1, d1, ds1, p1p, tq1, hargs1, rfl, rfl, h1, tr1⟩ := trodAll_cons tr0
  obtain ⟨rfl, rfl, rfl⟩ := trodAll_nil tr1
  obtain rfl : args = #[v0, v1] := by cases args; simp_all
  obtain ⟨rfl, rfl⟩ := trodVars_none hV
  have k0 := h0
  have lt0 : ∀ x ∈ p0p, x.block < W.heap.size := by obtain ⟨m, hm⟩ := k0; exact DataW.trod_lt m _ _ _ hm
  obtain ⟨z0, s0, y00, y01, n0, rfl, rfl, rfl, hz0, hs0⟩ := open_agg2 Try.underlying24 (by kernel_rfl) (by kernel_rfl) (hval 0 24 v0 rfl rfl) h0
  obtain ⟨p0, e0, -, wf0⟩ := DataW.trod_int Try.underlying2 hz0
  simp only [List.cons.injEq, and_true] at e0
  subst e0
  have g0 : ∃ ks, RdK W s0 ks ∧ KBy ks := rdK_of Try.underlying22 Try.underlying41 (by kernel_rfl) rfl rfl (by kernel_rfl) (by kernel_rfl) Try.underlying2 Try.underlying26 Try.underlying5 (by kernel_rfl) hs0
  have k1 := h1
  have lt1 : ∀ x ∈ p1p, x.block < W.heap.size := by obtain ⟨m, hm⟩ := k1; exact DataW.trod_lt m _ _ _ hm
  obtain ⟨z1, s1, y10, y11, n1, rfl, rfl, rfl, hz1, hs1⟩ := open_agg2 Try.underlying41 (by kernel_rfl) (by kernel_rfl) (hval 1 41 v1 rfl rfl) h1
  obtain ⟨p1, e1, -, wf1⟩ := DataW.trod_int Try.underlying2 hz1
  simp only [List.cons.injEq, and_true] at e1
  subst e1
  have g1 : ∃ l, Rd W s1 l ∧ Byt l := by
    rcases open_ints Try.underlying26 Try.underlying5 (by kernel_rfl) hs1 with ⟨hcs, _⟩ | ⟨x, l, c, zs, hcs, _, hl, hm, hz, _, hcell, hwz⟩
    · simp only [List.cons.injEq, and_true] at hcs
      subst hcs
      exact ⟨[], Rd.nil W, fun x hx => by simp at hx⟩
    · simp only [List.cons.injEq, and_true] at hcs
      subst hcs
      obtain ⟨l, -, y, h⟩ := rd_of_row (w := W) (.inr ⟨x, rfl, hl, hm, by simpa using hz, hcell, hwz⟩)
      exact ⟨l, h, y⟩
  clear hA0 hval0
  refine (walk p0 s0 p1 s1 W g0 wf0 g1 wf1).mono fun e W' ⟨he, bel⟩ => ?_
  subst he
  exact ⟨_, rfl, _, _, _, [], _, [], hW', trodAll_mk1 (shut_bool Try.underlying4 _), (trodAll_cons_mk (Below.trod laidOut (by kernel_rfl) (of_decide_eq_true (by kernel_rfl)) k0 bel lt0) (trodAll_cons_mk (Below.trod laidOut (by kernel_rfl) (of_decide_eq_true (by kernel_rfl)) k1 bel lt1) trodAll_mk0)), rfl, bel.frame _, fun h => by cases h⟩

theorem over : Rows.fnExactInstallKeyRow.holds Try.pinned (OpenSpec.ofChange Rows.fnExactInstallKeySpec) :=
  OpenClaim.holds_of_wide 4 Try.f4 rfl rfl rfl rfl rfl rfl rfl ⟨rfl, rfl, rfl, rfl, rfl⟩ rfl rfl rfl rfl rfl (by kernel_rfl) Try.func4 (by kernel_rfl)
    (of_decide_eq_true (by kernel_rfl)) (by unfold Func.isWrapper; first | (rw [if_pos (by decide +kernel)]; kernel_rfl) | (rw [if_neg (by decide +kernel)]; exact ⟨rfl, rfl⟩))
    (fun os started H enc _ => lifted os started H enc)

theorem proved : Rows.FnExactInstallKeySaid := over
#print axioms proved
end Go.Proofs.Ytmamdbmkjipahaj.fnExactInstallKey
