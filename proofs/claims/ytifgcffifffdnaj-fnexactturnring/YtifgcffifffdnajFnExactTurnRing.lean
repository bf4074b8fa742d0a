/-
  At every ring, number and key the program's TurnRing answers as the model's, field by field; it writes into no argument and keeps nothing of one; its answer owns its memory. Conditions: none (of rings and keys of more than 1048576 keys and bytes together the law says nothing, by its own text).
-/
import Derived.Test.YtifgcffifffdnajRows
import Derived.WalkKit
import Derived.ProofKit
import Derived.OpenShut
import Derived.ShutString
import Derived.ChangeOld
import Derived.Below
import Derived.Test.YtifgcffifffdnajRng
import Derived.Test.YtifgcffifffdnajStnW
import Derived.Test.YtifgcffifffdnajItnW
import Derived.Test.YtifgcffifffdnajGETurnRing2

namespace Go.Proofs.Ytifgcffifffdnaj.fnExactTurnRing
open Go.ChangeShapes Go.WideShapes Go.ChangeAt Go.RowKit Go.Joins
open Go.Proofs.Ytifgcffifffdnaj.W
open Go.Proofs.Ytifgcffifffdnaj.M
set_option linter.unusedVariables false

theorem own : ownKnob Try.prog.godebug = none := by kernel_rfl
theorem laidOut : laidOutB Try.prog = true := by kernel_rfl

set_option maxRecDepth 100000 in
theorem walk (p0 : Int) (s0 : Value) (p1 : Int) (p2 : Int) (s2 : Value) (w : World) (h0 : ∃ ks, RdK w s0 ks ∧ KBy ks) (wf0 : (Lit.int .i64 p0).wf = true) (h1 : (Lit.int .i64 p1).wf = true) (h2 : ∃ l, Rd w s2 l ∧ Byt l) (wf2 : (Lit.int .i64 p2).wf = true) :
    Calls Try.prog 7 #[.agg #[.int .i64 p0, s0], .int .i64 p1, .agg #[.int .i64 p2, s2]] w fun e w' => e = .returned (.bool true) ∧ Below w.heap.size w w' := by
  obtain ⟨ks, ha, -⟩ := h0
  obtain ⟨x, hx, -⟩ := h2
  obtain ⟨c, rk, l, hF⟩ := tr_some p0 p1 p2 ks x
  have hl : l.length + tot l ≤ 1048576 := by
    rcases hF with ⟨-, -, -, rfl⟩ | ⟨h0, p', ks', hn, ⟨-, -, rfl⟩ | ⟨rfl, -, rfl⟩⟩
    · simp [tot]
    · simp [tot]
    · obtain ⟨-, q, -, k3⟩ := tn_good h0 hn
      have q2 := tot_16 l (fun k hk' => by
        obtain ⟨i, hi, e⟩ := List.getElem_of_mem hk'
        rw [← e]
        exact (q i hi).2)
      omega
  exact law_TurnRing p0 p1 p2 c rk ks x l s0 s2 w hl ha hx (hid fun w v0 v1 h h' => stn p0 p1 p2 c rk v0 v1 ks l x w h h' hF) (hid fun w v0 v1 h h' => itn p0 p1 p2 c rk v0 v1 ks l x w h h' wf0 wf2 hF)

set_option maxHeartbeats 2000000 in
set_option maxRecDepth 100000 in
theorem lifted (os : Os) (started : os.Started) (H : Type) (enc : TypeId × Value → H) :
    ReturnsInHanded {} Try.checked os 7 .any (Rows.fnExactTurnRingSpec.pre6 enc Try.prog Try.f7 Rows.fnExactTurnRingRow.domain false) (Rows.fnExactTurnRingSpec.post enc Try.prog Try.f7 false true false false) := by
  refine returnsInHanded_of_change (C := Try.checked) own started (by kernel_rfl) Try.func7
    (ChangeSpec.witness6 (enc := enc) (C := Try.checked) false ⟨#[], #[.agg #[.int .i64 0, .slice none 0 0], .int .i64 0, .agg #[.int .i64 0, .slice none 0 0]], []⟩ 8 (by kernel_rfl) (by kernel_rfl) (by kernel_rfl) (by kernel_rfl)) ?_
  intro W base args ds gs before hval0 hW hcnd _
  have hval : ∀ (j : Nat) t v, Try.f7.params[j]? = some t → args[j]? = some v → Value.okWide Try.prog W .any base t v := hval0
  have hW' := hW
  obtain ⟨p, q, hA0, hV, rfl, hfz, hnd⟩ := hW
  have hA : DataW.TrodAll enc Try.prog W 0 (fun _ => true) true Try.f7.params.toList args.toList ds p := hA0
  rw [Try.params7] at hA hval
  obtain ⟨v0, vs0, d0, ds0, p0p, tq0, hargs0, rfl, rfl, h0, tr0⟩ := trodAll_cons hA
  obtain ⟨v1, vs1, d1, ds1, p1p, tq1, hargs1, rfl, rfl, h1, tr1⟩ := trodAll_cons tr0
  obtain ⟨v2, vs2, d2, ds2, p2p, tq2, hargs2, rfl, rfl, h2, tr2⟩ := trodAll_cons tr1
  obtain ⟨rfl, rfl, rfl⟩ := trodAll_nil tr2
  obtain rfl : args = #[v0, v1, v2] := by cases args; simp_all
  obtain ⟨rfl, rfl⟩ := trodVars_none hV
  have k0 := h0
  have lt0 : ∀ x ∈ p0p, x.block < W.heap.size := by obtain ⟨m, hm⟩ := k0; exact DataW.trod_lt m _ _ _ hm
  obtain ⟨z0, s0, y00, y01, n0, rfl, rfl, rfl, hz0, hs0⟩ := open_agg2 Try.underlying24 (by kernel_rfl) (by kernel_rfl) (hval 0 24 v0 rfl rfl) h0
  obtain ⟨p0, e0, -, wf0⟩ := DataW.trod_int Try.underlying2 hz0
  simp only [List.cons.injEq, and_true] at e0
  subst e0
  have g0 : ∃ ks, RdK W s0 ks ∧ KBy ks := rdK_of Try.underlying22 Try.underlying41 (by kernel_rfl) rfl rfl (by kernel_rfl) (by kernel_rfl) Try.underlying2 Try.underlying26 Try.underlying5 (by kernel_rfl) hs0
  have k1 := h1
  have lt1 : ∀ x ∈ p1p, x.block < W.heap.size := by obtain ⟨m, hm⟩ := k1; exact DataW.trod_lt m _ _ _ hm
  obtain ⟨nn1, hn1⟩ := h1
  obtain ⟨p1, e1, -, g1⟩ := DataW.trod_int Try.underlying2 hn1
  obtain rfl : v1 = .int .i64 p1 := by
    have hv := hval 1 2 v1 rfl rfl
    obtain ⟨q, rfl⟩ := okWide_int Try.underlying2 hv
    simpa [Value.cells] using e1
  have k2 := h2
  have lt2 : ∀ x ∈ p2p, x.block < W.heap.size := by obtain ⟨m, hm⟩ := k2; exact DataW.trod_lt m _ _ _ hm
  obtain ⟨z2, s2, y20, y21, n2, rfl, rfl, rfl, hz2, hs2⟩ := open_agg2 Try.underlying41 (by kernel_rfl) (by kernel_rfl) (hval 2 41 v2 rfl rfl) h2
  obtain ⟨p2, e2, -, wf2⟩ := DataW.trod_int Try.underlying2 hz2
  simp only [List.cons.injEq, and_true] at e2
  subst e2
  have g2 : ∃ l, Rd W s2 l ∧ Byt l := by
    rcases open_ints Try.underlying26 Try.underlying5 (by kernel_rfl) hs2 with ⟨hcs, _⟩ | ⟨x, l, c, zs, hcs, _, hl, hm, hz, _, hcell, hwz⟩
    · simp only [List.cons.injEq, and_true] at hcs
      subst hcs
      exact ⟨[], Rd.nil W, fun x hx => by simp at hx⟩
    · simp only [List.cons.injEq, and_true] at hcs
      subst hcs
      obtain ⟨l, -, y, h⟩ := rd_of_row (w := W) (.inr ⟨x, rfl, hl, hm, by simpa using hz, hcell, hwz⟩)
      exact ⟨l, h, y⟩
  clear hA0 hval0
  refine (walk p0 s0 p1 p2 s2 W g0 wf0 g1 g2 wf2).mono fun e W' ⟨he, bel⟩ => ?_
  subst he
  exact ⟨_, rfl, _, _, _, [], _, [], hW', trodAll_mk1 (shut_bool Try.underlying4 _), (trodAll_cons_mk (Below.trod laidOut (by kernel_rfl) (of_decide_eq_true (by kernel_rfl)) k0 bel lt0) (trodAll_cons_mk (Below.trod laidOut (by kernel_rfl) (of_decide_eq_true (by kernel_rfl)) k1 bel lt1) (trodAll_cons_mk (Below.trod laidOut (by kernel_rfl) (of_decide_eq_true (by kernel_rfl)) k2 bel lt2) trodAll_mk0))), rfl, bel.frame _, fun h => by cases h⟩

theorem over : Rows.fnExactTurnRingRow.holds Try.pinned (OpenSpec.ofChange Rows.fnExactTurnRingSpec) :=
  OpenClaim.holds_of_wide 7 Try.f7 rfl rfl rfl rfl rfl rfl rfl ⟨rfl, rfl, rfl, rfl, rfl⟩ rfl rfl rfl rfl rfl (by kernel_rfl) Try.func7 (by kernel_rfl)
    (of_decide_eq_true (by kernel_rfl)) (by unfold Func.isWrapper; first | (rw [if_pos (by decide +kernel)]; kernel_rfl) | (rw [if_neg (by decide +kernel)]; exact ⟨rfl, rfl⟩))
    (fun os started H enc _ => lifted os started H enc)

theorem proved : Rows.FnExactTurnRingSaid := over
#print axioms proved
end Go.Proofs.Ytifgcffifffdnaj.fnExactTurnRing
