/-
  The exact law of KeyWords, out of the contracts of its callees.
-/
import Derived.Test.YtflnhjbanlpjiagSsWalks
namespace Go.Proofs.Ytflnhjbanlpjiag.W
open Go.ChangeShapes Go.WideShapes Go.ChangeAt Go.RowKit
open Go.Proofs.Ytflnhjbanlpjiag.M

set_option maxRecDepth 100000 in
theorem eqWR (c : Int) (va vb : Value) (ls : List (List Nat)) (w : World) (ha : RdS w va ls) (hb : RdS w vb ls) (h4 : ∀ i (h : i < ls.length), ls[i].length = 4) (hl : ls.length ≤ 1000) :
    Calls Try.prog 28 #[.agg #[.int .i64 c, va], .agg #[.int .i64 c, vb]] w fun e w' => e = .returned (.bool true) ∧ Below w.heap.size w w' := by
  obtain ⟨a, capa, rfl, _, _, _⟩ := ha.parts
  obtain ⟨b, capb, rfl, _, _, _⟩ := hb.parts
  have HA := hid ha
  have HB := hid hb
  have H4 := hid h4
  clear ha hb h4
  go_enter Try.func28, Try.ntmps28
  go_wp2_with fail
  refine (eqSS _ _ ls _ (HA.out.below (below_alloc2 w _ _)) (HB.out.below (below_alloc2 w _ _)) H4.out hl).mono ?_
  rintro e w' ⟨rfl, hB⟩
  go_wp2
  go_ret
  exact ⟨rfl, (below_alloc2 w _ _).trans (hB.mono (by simp; omega))⟩

set_option maxRecDepth 100000 in
theorem markWR (c : Int) (v : Value) (vs : List Value) (ls : List (List Nat)) (base : Nat) (w : World) (h : Wds w base v vs ls) (h4 : ∀ i (h : i < ls.length), ls[i].length = 4) (hl : ls.length ≤ 1000) (hb : base ≤ w.heap.size) :
    Calls Try.prog 29 #[.agg #[.int .i64 c, v], .int .i64 1] w fun e w' => e = .returned (.int .i64 ((1 + 4 * ls.length : Nat) : Int)) ∧ Wds w' base v vs (mks 1 ls.length) ∧ Below base w w' ∧ Still w w' vs := by
  obtain ⟨a, cap, rfl, _, _, _⟩ := h.rd.parts
  have H := hid (h.below (below_alloc1 w (.cells #[.int .i64 c, .slice a ls.length cap] 42)))
  have H4 := hid h4
  clear h h4
  go_enter Try.func29, Try.ntmps29
  go_wp2_with fail
  have MK := markSS _ vs ls 1 base _ H.out H4.out hl (by omega) (by simp; omega)
  rw [one_cast] at MK
  refine MK.mono ?_
  rintro e w' ⟨rfl, hO, hB, hS⟩
  clear MK
  go_wp2
  go_ret
  exact ⟨rfl, hO, ((Below.refl base w).alloc hb _).trans hB, fun g o q r => hS g o (var_alloc _ q) r⟩

set_option maxRecDepth 100000 in
theorem heldWR (c : Int) (v : Value) (n : Nat) (w : World) (h : RdS w v (mks 1 n)) (hl : n ≤ 1000) :
    Calls Try.prog 30 #[.agg #[.int .i64 c, v], .int .i64 1] w fun e w' => e = .returned (.int .i64 ((1 + 4 * n : Nat) : Int)) ∧ Below w.heap.size w w' := by
  obtain ⟨a, cap, rfl, _, _, _⟩ := h.parts
  have H := hid (h.below (below_alloc1 w (.cells #[.int .i64 c, .slice a (mks 1 n).length cap] 42)))
  clear h
  have h0 : ¬ ((1 : Int) + 4 * (n : Int) < 0) := by omega
  have ML := mks_len 1 n
  rw [ML] at H ⊢
  go_enter Try.func30, Try.ntmps30
  go_wp2_with fail
  have MK := heldSS _ 1 n _ H.out hl (by omega)
  rw [one_cast] at MK
  refine MK.mono ?_
  rintro e w' ⟨rfl, rfl⟩
  clear MK
  go_wp2
  go_ret
  exact ⟨rfl, below_alloc1 w _⟩

set_option maxHeartbeats 4000000 in
set_option maxRecDepth 100000 in
theorem law_KeyWords (l0 : List Nat) (c : Int) (ls : List (List Nat)) (a0 : Value) (w : World) (h4 : ∀ i (h : i < ls.length), ls[i].length = 4) (hl : ls.length ≤ 1000)
    (h0 : Rd w a0 l0)
    (SP : Hid (∀ (w : World) (v0 : Value), Rd w v0 l0 → Calls Try.prog 26 #[v0] w fun e w' => ∃ v vs, e = .returned (.agg #[.int .i64 c, v]) ∧ Wds w' w.heap.size v vs ls ∧ Below w.heap.size w w'))
    (IP : Hid (∀ (w : World) (v0 : Value), Rd w v0 l0 → Calls Try.prog 27 #[v0] w fun e w' => ∃ v vs, e = .returned (.agg #[.int .i64 c, v]) ∧ Wds w' w.heap.size v vs ls ∧ Below w.heap.size w w')) :
    Calls Try.prog 8 #[a0] w fun e w' => e = .returned (.bool true) ∧ Below w.heap.size w w' := by
  obtain ⟨p0, cap0, rfl, _, _, _⟩ := h0.parts
  by_cases z0 : l0.length ≤ 1048576
  case neg =>
    go_enter Try.func8, Try.ntmps8
    go_wp2
    go_ret
    exact ⟨rfl, Below.refl _ _⟩
  have Z0 := hid h0
  have H4 := hid h4
  clear h0 h4
  go_enter Try.func8, Try.ntmps8
  go_wp2_with fail
  refine (toB _ l0 _ Z0.out z0).mono ?_
  rintro e w1 ⟨rfl, T0, hM⟩
  have B1 := hid hM
  have T0 := hid T0
  clear hM
  go_wp2_with fail
  refine (SP.out _ _ T0.out.rd).mono ?_
  rintro e w2 ⟨vw, us, rfl, OW, hM⟩
  obtain ⟨qw, cw, rfl, -, -, -⟩ := OW.rd.parts
  have B2 := hid (B1.out.trans (hM.mono B1.out.size))
  replace OW := hid OW
  clear hM T0 B1
  -- the model's answer lies in a variable at w2.heap.size
  have VW := hid (heap_alloc_new w2 (.cells #[.int .i64 c, .slice qw ls.length cw] 42))
  have K3 := hid (below_alloc1 w2 (.cells #[.int .i64 c, .slice qw ls.length cw] 42))
  go_wp2_with fail
  refine (toB _ l0 _ ((Z0.out.below B2.out).below K3.out) z0).mono ?_
  rintro e w4 ⟨rfl, X0, hM⟩
  simp only [World.size_alloc] at X0
  replace X0 := hid X0
  have X4 := X0
  replace VW := hid (var_below hM VW.out)
  replace K3 := hid (K3.out.trans (hM.mono K3.out.size))
  have ZW := hid (var_lt VW.out)
  clear hM
  obtain ⟨f1, f2, -, -⟩ := var2_facts VW.out
  go_wp2_with fail
  refine (IP.out _ _ X0.out.rd).mono ?_
  rintro e w5 ⟨vg, vs, rfl, OG, hM⟩
  obtain ⟨qg, cg, rfl, -, -, -⟩ := OG.rd.parts
  clear f1 f2
  replace X0 := hid (X0.out.below hM)
  replace VW := hid (var_below hM VW.out)
  replace K3 := hid (K3.out.trans (hM.mono K3.out.size))
  have XL := hid (show w2.heap.size + 1 < w4.heap.size from Nat.lt_of_lt_of_le (Nat.lt_succ_self _) (by
    have q := World.ownsRow.lt X4.out (w2.heap.size + 1) rfl
    omega))
  have Z45 := hid hM.size
  have NG := hid (show ∀ (i : Nat) (u : Value), vs[i]? = some u → u.ownBlock ≠ some w5.heap.size from fun i u q e => by have := OG.lt i u q _ e; omega)
  replace OG := hid OG
  clear hM
  -- the program's answer lies in a variable at w5.heap.size
  have VG := hid (heap_alloc_new w5 (.cells #[.int .i64 c, .slice qg ls.length cg] 42))
  have n5 := below_alloc1 w5 (.cells #[.int .i64 c, .slice qg ls.length cg] 42)
  obtain ⟨f1, f2, -, -⟩ := var2_facts (var_below n5 VW.out)
  go_wp2_with fail
  refine (eqWR c _ _ ls _ (OG.out.below n5).rd ((OW.out.below K3.out).below n5).rd H4.out hl).mono ?_
  rintro e w6 ⟨rfl, hM⟩
  have J6 := hid (n5.trans (hM.mono n5.size))
  have VG := hid (var_below hM VG.out)
  have VW := hid (var_below J6.out VW.out)
  have K3 := hid (K3.out.trans (J6.out.mono K3.out.size))
  have X0 := hid (X0.out.below J6.out)
  have OG := hid (OG.out.below J6.out)
  have G5 := hid (var_lt VG.out)
  clear hM n5 f1 f2
  obtain ⟨f1, f2, -, -⟩ := var2_facts VW.out
  obtain ⟨f3, f4, -, -⟩ := var2_facts VG.out
  go_wp2_with fail
  refine (toB _ l0 _ (Z0.out.below (B2.out.trans (K3.out.mono B2.out.size))) z0).mono ?_
  rintro e w7 ⟨rfl, Y0, hM⟩
  clear f1 f2 f3 f4
  replace VW := hid (var_below hM VW.out)
  replace VG := hid (var_below hM VG.out)
  replace K3 := hid (K3.out.trans (hM.mono K3.out.size))
  replace X0 := hid (X0.out.below hM)
  replace OG := hid (OG.out.below hM)
  replace Y0 := hid Y0
  clear hM
  obtain ⟨f1, f2, -, -⟩ := var2_facts VW.out
  obtain ⟨f3, f4, -, -⟩ := var2_facts VG.out
  go_wp2_with fail
  refine (eqB _ _ l0 _ X0.out.rd Y0.out.rd z0).mono ?_
  rintro e w8 ⟨rfl, hM⟩
  clear f1 f2 f3 f4
  replace VW := hid (var_below hM VW.out)
  replace VG := hid (var_below hM VG.out)
  replace K3 := hid (K3.out.trans (hM.mono K3.out.size))
  replace X0 := hid (X0.out.below hM)
  replace OG := hid (OG.out.below hM)
  clear hM Y0
  obtain ⟨f1, f2, -, -⟩ := var2_facts VW.out
  obtain ⟨f3, f4, -, -⟩ := var2_facts VG.out
  go_wp2_with fail
  refine (markB1 _ l0 _ _ X0.out z0).mono ?_
  rintro e w9 ⟨rfl, X1, G9⟩
  replace G9 : w8.grownBy w9 (some (w2.heap.size + 1)) := G9
  clear f1 f2 f3 f4 X1
  replace VW := hid (var_grown G9 VW.out (by intro q; have h3 : w2.heap.size = w2.heap.size + 1 := Option.some.inj q; omega))
  replace VG := hid (var_grown G9 VG.out (by intro q; have h1 := XL.out; have h2 := Z45.out; have h3 : w5.heap.size = w2.heap.size + 1 := Option.some.inj q; omega))
  replace OG := hid (OG.out.low G9 XL.out)
  replace K3 := hid (K3.out.grown G9 K3.out.size (fun k q => by have h3 : w2.heap.size + 1 = k := Option.some.inj q; omega))
  clear G9 X0
  obtain ⟨f1, f2, -, -⟩ := var2_facts VW.out
  obtain ⟨f3, f4, -, -⟩ := var2_facts VG.out
  have hk0 : decide ((1 : Int) + (l0.length : Int) < 0) = false := decide_eq_false (by omega)
  go_wp2_with fail
  refine (eqWR c _ _ ls _ OG.out.rd (OW.out.below K3.out).rd H4.out hl).mono ?_
  rintro e w10 ⟨rfl, hM⟩
  clear f1 f2 f3 f4
  replace VW := hid (var_below hM VW.out)
  replace VG := hid (var_below hM VG.out)
  replace K3 := hid (K3.out.trans (hM.mono K3.out.size))
  replace OG := hid (OG.out.below hM)
  clear hM hk0
  obtain ⟨f1, f2, -, -⟩ := var2_facts VW.out
  obtain ⟨f3, f4, -, -⟩ := var2_facts VG.out
  go_wp2_with fail
  refine (markWR c _ vs ls _ _ OG.out H4.out hl (by have h1 := var_lt VG.out; have h2 := Z45.out; omega)).mono ?_
  rintro e w11 ⟨rfl, OM, hM, hS⟩
  clear f1 f2 f3 f4
  replace VW := hid (var_keep hM VW.out (by have := ZW.out; omega))
  replace VG := hid (hS _ _ VG.out NG.out)
  replace K3 := hid (K3.out.trans (hM.mono (by have := XL.out; omega)))
  replace OM := hid OM
  clear hM hS OG
  obtain ⟨f1, f2, -, -⟩ := var2_facts VW.out
  obtain ⟨f3, f4, -, -⟩ := var2_facts VG.out
  go_wp2_with fail
  refine (heldWR c _ ls.length _ OM.out.rd hl).mono ?_
  rintro e w12 ⟨rfl, hM⟩
  clear f1 f2 f3 f4
  replace VW := hid (var_below hM VW.out)
  replace VG := hid (var_below hM VG.out)
  replace K3 := hid (K3.out.trans (hM.mono K3.out.size))
  replace OM := hid (OM.out.below hM)
  clear hM
  obtain ⟨f1, f2, -, -⟩ := var2_facts VW.out
  obtain ⟨f3, f4, -, -⟩ := var2_facts VG.out
  have q1 : ¬ (1 : Int) + 4 * (ls.length : Int) < 0 := by omega
  go_wp2_with fail
  refine (toB _ l0 _ (Z0.out.below (B2.out.trans (K3.out.mono B2.out.size))) z0).mono ?_
  rintro e w13 ⟨rfl, U0, hM⟩
  clear f1 f2 f3 f4
  replace VW := hid (var_below hM VW.out)
  replace VG := hid (var_below hM VG.out)
  replace K3 := hid (K3.out.trans (hM.mono K3.out.size))
  replace OM := hid (OM.out.below hM)
  replace U0 := hid U0
  clear hM
  obtain ⟨f1, f2, -, -⟩ := var2_facts VW.out
  obtain ⟨f3, f4, -, -⟩ := var2_facts VG.out
  go_wp2_with fail
  refine (IP.out _ _ U0.out.rd).mono ?_
  rintro e w14 ⟨vh, ws, rfl, OH, hM⟩
  obtain ⟨qh, ch, rfl, -, -, -⟩ := OH.rd.parts
  clear f1 f2 f3 f4
  replace VW := hid (var_below hM VW.out)
  replace VG := hid (var_below hM VG.out)
  replace K3 := hid (K3.out.trans (hM.mono K3.out.size))
  replace OM := hid (OM.out.below hM)
  replace OH := hid OH
  clear hM U0
  have n14 := hid (below_alloc1 w14 (.cells #[.int .i64 c, .slice qh ls.length ch] 42))
  have f1 := (var2_facts (var_below n14.out VW.out)).1
  have f2 := (var2_facts (var_below n14.out VW.out)).2.1
  have f3 := (var2_facts (var_below n14.out VG.out)).1
  have f4 := (var2_facts (var_below n14.out VG.out)).2.1
  go_wp2_with fail
  refine (eqWR c _ _ ls _ (OH.out.below n14.out).rd ((OW.out.below K3.out).below n14.out).rd H4.out hl).mono ?_
  rintro e w15 ⟨rfl, hM⟩
  replace hM := n14.out.trans (hM.mono n14.out.size)
  clear f1 f2 f3 f4
  replace VW := hid (var_below hM VW.out)
  replace VG := hid (var_below hM VG.out)
  replace K3 := hid (K3.out.trans (hM.mono K3.out.size))
  replace OM := hid (OM.out.below hM)
  clear hM n14 OH
  obtain ⟨f1, f2, -, -⟩ := var2_facts VW.out
  obtain ⟨f3, f4, -, -⟩ := var2_facts VG.out
  go_wp2_with fail
  refine (heldWR c _ ls.length _ OM.out.rd hl).mono ?_
  rintro e w16 ⟨rfl, hM⟩
  clear f1 f2 f3 f4
  replace VW := hid (var_below hM VW.out)
  replace VG := hid (var_below hM VG.out)
  replace K3 := hid (K3.out.trans (hM.mono K3.out.size))
  clear hM
  have BF := hid (B2.out.trans (K3.out.mono B2.out.size))
  clear VW VG OM K3
  go_wp2
  go_ret
  exact ⟨rfl, BF.out⟩
end Go.Proofs.Ytflnhjbanlpjiag.W
