/-
  Two messages that are the same: what the program's sameMessage answers. Generated text.
-/
import Derived.Test.YtifgcffifffdnamSameWalks
import Derived.Test.YtifgcffifffdnamStrW
import Derived.Laws.StructEq
namespace Go.Proofs.Ytifgcffifffdnam.W
open Go.ChangeShapes Go.WideShapes Go.ChangeAt Go.RowKit
open Go.Proofs.Ytifgcffifffdnam.M

theorem guard_claim : Try.prog.eqGuardType Try.prog.depth 33 = false := by kernel_rfl
set_option maxRecDepth 100000 in
theorem iskm (ia ib : Int) (va vb : Value) (la lb : List Nat) (w : World) (ha : Rd w va la) (hb : Rd w vb lb) (t : Bool) (ht : (ia = ib ∧ t = sameS la lb) ∨ (¬ ia = ib ∧ t = false)) :
    Calls Try.prog 77 #[.agg #[.int .i64 ia, va], .agg #[.int .i64 ib, vb]] w fun e w' => e = .returned (.bool t) ∧ Below w.heap.size w w' := by
  have RA := hid ha
  have RB := hid hb
  obtain ⟨a, ca, rfl, -, -, -⟩ := ha.parts
  obtain ⟨b, cb, rfl, -, -, -⟩ := hb.parts
  clear ha hb
  rcases ht with ⟨rfl, rfl⟩ | ⟨e, rfl⟩
  · go_enter Try.func77, Try.ntmps77
    go_wp2_with fail
    refine (samei _ _ la lb _ (RA.out.below (below_alloc2 w _ _)) (RB.out.below (below_alloc2 w _ _))).mono ?_
    rintro e w' ⟨rfl, rfl⟩
    go_wp2
    go_ret
    exact ⟨rfl, below_alloc2 w _ _⟩
  · have ne : (ia == ib) = false := beq_eq_false_iff_ne.2 e
    replace e := hid e
    go_enter Try.func77, Try.ntmps77
    go_wp2
    go_ret
    exact ⟨rfl, below_alloc2 w _ _⟩

set_option maxHeartbeats 2000000 in
set_option maxRecDepth 100000 in
theorem smm_eq (k s n cn ci cs cm op i : Int) (va vb : Value) (la lb : List Nat) (w : World) (ha : Rd w va la) (hb : Rd w vb lb) :
    Calls Try.prog 69 #[.agg #[.int .i64 k, .int .i64 s, .int .i64 n, .int .i64 cn, .int .i64 ci, .int .i64 cs, .int .i64 cm, .int .i64 op, .int .i64 i, va], .agg #[.int .i64 k, .int .i64 s, .int .i64 n, .int .i64 cn, .int .i64 ci, .int .i64 cs, .int .i64 cm, .int .i64 op, .int .i64 i, vb]] w fun e w' => e = .returned (.bool (sameS la lb)) ∧ Below w.heap.size w w' := by
  have HA := hid ha
  have HB := hid hb
  obtain ⟨a, ca, rfl, -, -, -⟩ := ha.parts
  obtain ⟨b, cb, rfl, -, -, -⟩ := hb.parts
  clear ha hb
  have y1 := guard_claim
  obtain ⟨t, ht⟩ : ∃ t, t = sameS la lb := ⟨_, rfl⟩
  rw [← ht]
  replace ht := hid ht
  go_enter Try.func69, Try.ntmps69
  go_wp2_with fail
  have BB := hid (below_alloc2 w (.cells #[.int .i64 k, .int .i64 s, .int .i64 n, .int .i64 cn, .int .i64 ci, .int .i64 cs, .int .i64 cm, .int .i64 op, .int .i64 i, .slice a la.length ca] 45) (.cells #[.int .i64 k, .int .i64 s, .int .i64 n, .int .i64 cn, .int .i64 ci, .int .i64 cs, .int .i64 cm, .int .i64 op, .int .i64 i, .slice b lb.length cb] 45))
  replace HA := hid (HA.out.below BB.out)
  replace HB := hid (HB.out.below BB.out)
  generalize (w.alloc (.cells #[.int .i64 k, .int .i64 s, .int .i64 n, .int .i64 cn, .int .i64 ci, .int .i64 cs, .int .i64 cm, .int .i64 op, .int .i64 i, .slice a la.length ca] 45)).alloc (.cells #[.int .i64 k, .int .i64 s, .int .i64 n, .int .i64 cn, .int .i64 ci, .int .i64 cs, .int .i64 cm, .int .i64 op, .int .i64 i, .slice b lb.length cb] 45) = w0 at *
  refine (iskm _ _ _ _ la lb _ HA.out HB.out _ (.inl ⟨rfl, ht.out⟩)).mono ?_
  rintro e w1 ⟨rfl, hB⟩
  replace BB := hid (BB.out.trans (hB.mono BB.out.size))
  clear hB
  go_wp2
  go_ret
  exact ⟨rfl, BB.out⟩
set_option maxHeartbeats 2000000 in
set_option maxRecDepth 100000 in
theorem smm_k (k s n cn ci cs cm op i k' s' n' cn' ci' cs' cm' op' i' : Int) (va vb : Value) (la lb : List Nat) (w : World) (ha : Rd w va la) (hb : Rd w vb lb) (e : ¬ k = k') :
    Calls Try.prog 69 #[.agg #[.int .i64 k, .int .i64 s, .int .i64 n, .int .i64 cn, .int .i64 ci, .int .i64 cs, .int .i64 cm, .int .i64 op, .int .i64 i, va], .agg #[.int .i64 k', .int .i64 s', .int .i64 n', .int .i64 cn', .int .i64 ci', .int .i64 cs', .int .i64 cm', .int .i64 op', .int .i64 i', vb]] w fun e w' => e = .returned (.bool false) ∧ Below w.heap.size w w' := by
  have HA := hid ha
  have HB := hid hb
  obtain ⟨a, ca, rfl, -, -, -⟩ := ha.parts
  obtain ⟨b, cb, rfl, -, -, -⟩ := hb.parts
  clear ha hb
  have y1 := guard_claim
  have ne : (k == k') = false := beq_eq_false_iff_ne.2 e
  replace e := hid e
  go_enter Try.func69, Try.ntmps69
  go_wp2
  go_ret
  exact ⟨rfl, below_alloc2 w _ _⟩
set_option maxHeartbeats 2000000 in
set_option maxRecDepth 100000 in
theorem smm_s (k s n cn ci cs cm op i s' n' cn' ci' cs' cm' op' i' : Int) (va vb : Value) (la lb : List Nat) (w : World) (ha : Rd w va la) (hb : Rd w vb lb) (e : ¬ s = s') :
    Calls Try.prog 69 #[.agg #[.int .i64 k, .int .i64 s, .int .i64 n, .int .i64 cn, .int .i64 ci, .int .i64 cs, .int .i64 cm, .int .i64 op, .int .i64 i, va], .agg #[.int .i64 k, .int .i64 s', .int .i64 n', .int .i64 cn', .int .i64 ci', .int .i64 cs', .int .i64 cm', .int .i64 op', .int .i64 i', vb]] w fun e w' => e = .returned (.bool false) ∧ Below w.heap.size w w' := by
  have HA := hid ha
  have HB := hid hb
  obtain ⟨a, ca, rfl, -, -, -⟩ := ha.parts
  obtain ⟨b, cb, rfl, -, -, -⟩ := hb.parts
  clear ha hb
  have y1 := guard_claim
  have ne : (s == s') = false := beq_eq_false_iff_ne.2 e
  replace e := hid e
  go_enter Try.func69, Try.ntmps69
  go_wp2
  go_ret
  exact ⟨rfl, below_alloc2 w _ _⟩
set_option maxHeartbeats 2000000 in
set_option maxRecDepth 100000 in
theorem smm_n (k s n cn ci cs cm op i n' cn' ci' cs' cm' op' i' : Int) (va vb : Value) (la lb : List Nat) (w : World) (ha : Rd w va la) (hb : Rd w vb lb) (e : ¬ n = n') :
    Calls Try.prog 69 #[.agg #[.int .i64 k, .int .i64 s, .int .i64 n, .int .i64 cn, .int .i64 ci, .int .i64 cs, .int .i64 cm, .int .i64 op, .int .i64 i, va], .agg #[.int .i64 k, .int .i64 s, .int .i64 n', .int .i64 cn', .int .i64 ci', .int .i64 cs', .int .i64 cm', .int .i64 op', .int .i64 i', vb]] w fun e w' => e = .returned (.bool false) ∧ Below w.heap.size w w' := by
  have HA := hid ha
  have HB := hid hb
  obtain ⟨a, ca, rfl, -, -, -⟩ := ha.parts
  obtain ⟨b, cb, rfl, -, -, -⟩ := hb.parts
  clear ha hb
  have y1 := guard_claim
  have ne : (n == n') = false := beq_eq_false_iff_ne.2 e
  replace e := hid e
  go_enter Try.func69, Try.ntmps69
  go_wp2
  go_ret
  exact ⟨rfl, below_alloc2 w _ _⟩
set_option maxHeartbeats 2000000 in
set_option maxRecDepth 100000 in
theorem smm_cn (k s n cn ci cs cm op i cn' ci' cs' cm' op' i' : Int) (va vb : Value) (la lb : List Nat) (w : World) (ha : Rd w va la) (hb : Rd w vb lb) (e : ¬ cn = cn') :
    Calls Try.prog 69 #[.agg #[.int .i64 k, .int .i64 s, .int .i64 n, .int .i64 cn, .int .i64 ci, .int .i64 cs, .int .i64 cm, .int .i64 op, .int .i64 i, va], .agg #[.int .i64 k, .int .i64 s, .int .i64 n, .int .i64 cn', .int .i64 ci', .int .i64 cs', .int .i64 cm', .int .i64 op', .int .i64 i', vb]] w fun e w' => e = .returned (.bool false) ∧ Below w.heap.size w w' := by
  have HA := hid ha
  have HB := hid hb
  obtain ⟨a, ca, rfl, -, -, -⟩ := ha.parts
  obtain ⟨b, cb, rfl, -, -, -⟩ := hb.parts
  clear ha hb
  have y1 := guard_claim
  have ne : (cn == cn') = false := beq_eq_false_iff_ne.2 e
  go_enter Try.func69, Try.ntmps69
  go_wp2
  go_ret
  exact ⟨rfl, below_alloc2 w _ _⟩
set_option maxHeartbeats 2000000 in
set_option maxRecDepth 100000 in
theorem smm_ci (k s n cn ci cs cm op i ci' cs' cm' op' i' : Int) (va vb : Value) (la lb : List Nat) (w : World) (ha : Rd w va la) (hb : Rd w vb lb) (e : ¬ ci = ci') :
    Calls Try.prog 69 #[.agg #[.int .i64 k, .int .i64 s, .int .i64 n, .int .i64 cn, .int .i64 ci, .int .i64 cs, .int .i64 cm, .int .i64 op, .int .i64 i, va], .agg #[.int .i64 k, .int .i64 s, .int .i64 n, .int .i64 cn, .int .i64 ci', .int .i64 cs', .int .i64 cm', .int .i64 op', .int .i64 i', vb]] w fun e w' => e = .returned (.bool false) ∧ Below w.heap.size w w' := by
  have HA := hid ha
  have HB := hid hb
  obtain ⟨a, ca, rfl, -, -, -⟩ := ha.parts
  obtain ⟨b, cb, rfl, -, -, -⟩ := hb.parts
  clear ha hb
  have y1 := guard_claim
  have ne : (ci == ci') = false := beq_eq_false_iff_ne.2 e
  go_enter Try.func69, Try.ntmps69
  go_wp2
  go_ret
  exact ⟨rfl, below_alloc2 w _ _⟩
set_option maxHeartbeats 2000000 in
set_option maxRecDepth 100000 in
theorem smm_cs (k s n cn ci cs cm op i cs' cm' op' i' : Int) (va vb : Value) (la lb : List Nat) (w : World) (ha : Rd w va la) (hb : Rd w vb lb) (e : ¬ cs = cs') :
    Calls Try.prog 69 #[.agg #[.int .i64 k, .int .i64 s, .int .i64 n, .int .i64 cn, .int .i64 ci, .int .i64 cs, .int .i64 cm, .int .i64 op, .int .i64 i, va], .agg #[.int .i64 k, .int .i64 s, .int .i64 n, .int .i64 cn, .int .i64 ci, .int .i64 cs', .int .i64 cm', .int .i64 op', .int .i64 i', vb]] w fun e w' => e = .returned (.bool false) ∧ Below w.heap.size w w' := by
  have HA := hid ha
  have HB := hid hb
  obtain ⟨a, ca, rfl, -, -, -⟩ := ha.parts
  obtain ⟨b, cb, rfl, -, -, -⟩ := hb.parts
  clear ha hb
  have y1 := guard_claim
  have ne : (cs == cs') = false := beq_eq_false_iff_ne.2 e
  go_enter Try.func69, Try.ntmps69
  go_wp2
  go_ret
  exact ⟨rfl, below_alloc2 w _ _⟩
set_option maxHeartbeats 2000000 in
set_option maxRecDepth 100000 in
theorem smm_cm (k s n cn ci cs cm op i cm' op' i' : Int) (va vb : Value) (la lb : List Nat) (w : World) (ha : Rd w va la) (hb : Rd w vb lb) (e : ¬ cm = cm') :
    Calls Try.prog 69 #[.agg #[.int .i64 k, .int .i64 s, .int .i64 n, .int .i64 cn, .int .i64 ci, .int .i64 cs, .int .i64 cm, .int .i64 op, .int .i64 i, va], .agg #[.int .i64 k, .int .i64 s, .int .i64 n, .int .i64 cn, .int .i64 ci, .int .i64 cs, .int .i64 cm', .int .i64 op', .int .i64 i', vb]] w fun e w' => e = .returned (.bool false) ∧ Below w.heap.size w w' := by
  have HA := hid ha
  have HB := hid hb
  obtain ⟨a, ca, rfl, -, -, -⟩ := ha.parts
  obtain ⟨b, cb, rfl, -, -, -⟩ := hb.parts
  clear ha hb
  have y1 := guard_claim
  have ne : (cm == cm') = false := beq_eq_false_iff_ne.2 e
  go_enter Try.func69, Try.ntmps69
  go_wp2
  go_ret
  exact ⟨rfl, below_alloc2 w _ _⟩
set_option maxHeartbeats 2000000 in
set_option maxRecDepth 100000 in
theorem smm_op (k s n cn ci cs cm op i op' i' : Int) (va vb : Value) (la lb : List Nat) (w : World) (ha : Rd w va la) (hb : Rd w vb lb) (e : ¬ op = op') :
    Calls Try.prog 69 #[.agg #[.int .i64 k, .int .i64 s, .int .i64 n, .int .i64 cn, .int .i64 ci, .int .i64 cs, .int .i64 cm, .int .i64 op, .int .i64 i, va], .agg #[.int .i64 k, .int .i64 s, .int .i64 n, .int .i64 cn, .int .i64 ci, .int .i64 cs, .int .i64 cm, .int .i64 op', .int .i64 i', vb]] w fun e w' => e = .returned (.bool false) ∧ Below w.heap.size w w' := by
  have HA := hid ha
  have HB := hid hb
  obtain ⟨a, ca, rfl, -, -, -⟩ := ha.parts
  obtain ⟨b, cb, rfl, -, -, -⟩ := hb.parts
  clear ha hb
  have y1 := guard_claim
  have ne : (op == op') = false := beq_eq_false_iff_ne.2 e
  replace e := hid e
  go_enter Try.func69, Try.ntmps69
  go_wp2
  go_ret
  exact ⟨rfl, below_alloc2 w _ _⟩
set_option maxHeartbeats 2000000 in
set_option maxRecDepth 100000 in
theorem smm_i (k s n cn ci cs cm op i i' : Int) (va vb : Value) (la lb : List Nat) (w : World) (ha : Rd w va la) (hb : Rd w vb lb) (e : ¬ i = i') :
    Calls Try.prog 69 #[.agg #[.int .i64 k, .int .i64 s, .int .i64 n, .int .i64 cn, .int .i64 ci, .int .i64 cs, .int .i64 cm, .int .i64 op, .int .i64 i, va], .agg #[.int .i64 k, .int .i64 s, .int .i64 n, .int .i64 cn, .int .i64 ci, .int .i64 cs, .int .i64 cm, .int .i64 op, .int .i64 i', vb]] w fun e w' => e = .returned (.bool false) ∧ Below w.heap.size w w' := by
  have HA := hid ha
  have HB := hid hb
  obtain ⟨a, ca, rfl, -, -, -⟩ := ha.parts
  obtain ⟨b, cb, rfl, -, -, -⟩ := hb.parts
  clear ha hb
  have y1 := guard_claim
  replace e := hid e
  go_enter Try.func69, Try.ntmps69
  go_wp2_with fail
  have BB := hid (below_alloc2 w (.cells #[.int .i64 k, .int .i64 s, .int .i64 n, .int .i64 cn, .int .i64 ci, .int .i64 cs, .int .i64 cm, .int .i64 op, .int .i64 i, .slice a la.length ca] 45) (.cells #[.int .i64 k, .int .i64 s, .int .i64 n, .int .i64 cn, .int .i64 ci, .int .i64 cs, .int .i64 cm, .int .i64 op, .int .i64 i', .slice b lb.length cb] 45))
  replace HA := hid (HA.out.below BB.out)
  replace HB := hid (HB.out.below BB.out)
  generalize (w.alloc (.cells #[.int .i64 k, .int .i64 s, .int .i64 n, .int .i64 cn, .int .i64 ci, .int .i64 cs, .int .i64 cm, .int .i64 op, .int .i64 i, .slice a la.length ca] 45)).alloc (.cells #[.int .i64 k, .int .i64 s, .int .i64 n, .int .i64 cn, .int .i64 ci, .int .i64 cs, .int .i64 cm, .int .i64 op, .int .i64 i', .slice b lb.length cb] 45) = w0 at *
  refine (iskm _ _ _ _ la lb _ HA.out HB.out _ (.inr ⟨e.out, rfl⟩)).mono ?_
  rintro e w1 ⟨rfl, hB⟩
  replace BB := hid (BB.out.trans (hB.mono BB.out.size))
  clear hB
  go_wp2
  go_ret
  exact ⟨rfl, BB.out⟩
theorem smm (k s n cn ci cs cm op i k' s' n' cn' ci' cs' cm' op' i' : Int) (va vb : Value) (la lb : List Nat) (w : World) (ha : Rd w va la) (hb : Rd w vb lb) (t : Bool) (ht : (k = k' ∧ s = s' ∧ n = n' ∧ cn = cn' ∧ ci = ci' ∧ cs = cs' ∧ cm = cm' ∧ op = op' ∧ i = i' ∧ t = sameS la lb) ∨ (¬ (k = k' ∧ s = s' ∧ n = n' ∧ cn = cn' ∧ ci = ci' ∧ cs = cs' ∧ cm = cm' ∧ op = op' ∧ i = i') ∧ t = false)) :
    Calls Try.prog 69 #[.agg #[.int .i64 k, .int .i64 s, .int .i64 n, .int .i64 cn, .int .i64 ci, .int .i64 cs, .int .i64 cm, .int .i64 op, .int .i64 i, va], .agg #[.int .i64 k', .int .i64 s', .int .i64 n', .int .i64 cn', .int .i64 ci', .int .i64 cs', .int .i64 cm', .int .i64 op', .int .i64 i', vb]] w fun e w' => e = .returned (.bool t) ∧ Below w.heap.size w w' := by
  rcases ht with ⟨rfl, rfl, rfl, rfl, rfl, rfl, rfl, rfl, rfl, rfl⟩ | ⟨hn, rfl⟩
  · exact smm_eq k s n cn ci cs cm op i va vb la lb w ha hb
  · by_cases e0 : k = k'
    case neg => exact smm_k k s n cn ci cs cm op i k' s' n' cn' ci' cs' cm' op' i' va vb la lb w ha hb e0
    subst e0
    by_cases e1 : s = s'
    case neg => exact smm_s k s n cn ci cs cm op i s' n' cn' ci' cs' cm' op' i' va vb la lb w ha hb e1
    subst e1
    by_cases e2 : n = n'
    case neg => exact smm_n k s n cn ci cs cm op i n' cn' ci' cs' cm' op' i' va vb la lb w ha hb e2
    subst e2
    by_cases e3 : cn = cn'
    case neg => exact smm_cn k s n cn ci cs cm op i cn' ci' cs' cm' op' i' va vb la lb w ha hb e3
    subst e3
    by_cases e4 : ci = ci'
    case neg => exact smm_ci k s n cn ci cs cm op i ci' cs' cm' op' i' va vb la lb w ha hb e4
    subst e4
    by_cases e5 : cs = cs'
    case neg => exact smm_cs k s n cn ci cs cm op i cs' cm' op' i' va vb la lb w ha hb e5
    subst e5
    by_cases e6 : cm = cm'
    case neg => exact smm_cm k s n cn ci cs cm op i cm' op' i' va vb la lb w ha hb e6
    subst e6
    by_cases e7 : op = op'
    case neg => exact smm_op k s n cn ci cs cm op i op' i' va vb la lb w ha hb e7
    subst e7
    by_cases e8 : i = i'
    case neg => exact smm_i k s n cn ci cs cm op i i' va vb la lb w ha hb e8
    subst e8
    exact absurd ⟨rfl, rfl, rfl, rfl, rfl, rfl, rfl, rfl, rfl⟩ hn
end Go.Proofs.Ytifgcffifffdnam.W
