/-
  What the program's WindowFault answers.
  Two lists of numbers, and two windows, that are the same: what the model's and the program's functions answer.
  The law of windows, out of the contracts of its callees. Generated text.
-/
import Derived.Test.YtalaolfcdaaaoaaTsoW
import Derived.Test.YtalaolfcdaaaoaaSlZI
import Derived.Test.YtalaolfcdaaaoaaBase
import Derived.Deep.Cut
import Derived.Test.YtalaolfcdaaaoaaWdLem
import Derived.Test.YtalaolfcdaaaoaaDrawWg
import Derived.Test.YtalaolfcdaaaoaaLwNu
import Derived.Test.YtalaolfcdaaaoaaStcW
import Derived.Test.YtalaolfcdaaaoaaStaW
import Derived.Test.YtalaolfcdaaaoaaItcW
import Derived.Test.YtalaolfcdaaaoaaItaW
import Derived.Test.YtalaolfcdaaaoaaWfS
import Derived.Test.YtalaolfcdaaaoaaNwW

namespace Go.Proofs.Ytalaolfcdaaaoaa.W
open Go.ChangeShapes Go.WideShapes Go.ChangeAt Go.RowKit Go.Maps
open Go.Proofs.Ytalaolfcdaaaoaa.M

theorem ret_wz {a b : Int} (h : a = b) : Ending.returned (.int .i64 a) = .returned (.int .i64 b) := by rw [h]
set_option maxRecDepth 100000 in
theorem iwf (top : Int) (v : Value) (l : List Int) (w : World) (h : RdZ w v l) (hy : WfZ l) (hl : l.length ≤ 1048576) :
    Calls Try.prog 48 #[.agg #[.int .i64 top, v]] w fun e w' => e = .returned (.int .i64 (wF top l)) ∧ Below w.heap.size w w' := by
  have H := hid h
  have HY := hid hy
  obtain ⟨a, cap, rfl, -, -, -⟩ := h.parts
  clear h hy
  go_enter Try.func48, Try.ntmps48
  go_wp2_with fail
  have hA := below_alloc1 w (.cells #[.int .i64 top, .slice a l.length cap] 69)
  refine (iso top _ l _ (H.out.below hA) HY.out hl).mono ?_
  rintro e w1 ⟨r, rfl, -, hB⟩
  have BB := hid (hA.trans (hB.mono hA.size))
  clear hA hB
  obtain ⟨c, hc⟩ : ∃ c, c = wF top l := ⟨_, rfl⟩
  rw [← hc]
  have HC := hid hc
  clear hc
  go_wp2
  go_ret
  exact ⟨ret_wz HC.out, BB.out⟩
end Go.Proofs.Ytalaolfcdaaaoaa.W

namespace Go.Proofs.Ytalaolfcdaaaoaa.W
open Go.ChangeShapes Go.WideShapes Go.ChangeAt Go.RowKit
open Go.Proofs.Ytalaolfcdaaaoaa.M

/-- Both are one list. -/
def sameZ (la lb : List Int) : Bool := decide (la = lb)
theorem sameZ_no_len {la lb : List Int} (h : ¬ la.length = lb.length) : sameZ la lb = false := decide_eq_false fun e => h (by rw [e])
theorem sameZ_no_at {la lb : List Int} (k : Nat) (h1 : k < la.length) (h2 : k < lb.length) (h : ¬ la[k] = lb[k]) : sameZ la lb = false := decide_eq_false fun e => h (by subst e; rfl)
theorem sameZ_yes {la lb : List Int} (h : la.length = lb.length) (hs : ∀ j (h1 : j < la.length) (h2 : j < lb.length), la[j] = lb[j]) : sameZ la lb = true := decide_eq_true (List.ext_getElem h fun j h1 h2 => hs j h1 h2)
set_option maxRecDepth 100000 in
theorem sameS1 (va vb : Value) (la lb : List Int) (w : World) (ha : RdZ w va la) (hb : RdZ w vb lb) :
    Calls Try.prog 107 #[va, vb] w fun e w' => e = .returned (.bool (sameZ la lb)) ∧ Below w.heap.size w w' := by
  obtain ⟨a, capa, rfl, q1, q2, hca⟩ := ha.parts
  have hmx : la.length ≤ maxLen := Nat.le_trans q1 q2
  unfold maxLen at hmx
  clear q1 q2
  obtain ⟨b, capb, rfl, -, -, hcb⟩ := hb.parts
  clear ha hb
  by_cases hl : la.length = lb.length
  · have HL := hid hl
    go_enter Try.func107, Try.ntmps107
    go_wp2
    go_loopw [5] (fun i wr => ∃ k : Nat, k ≤ la.length ∧ i = .int .i64 k ∧ Hid (Below w.heap.size w wr) ∧ Hid (∀ j (h1 : j < la.length) (h2 : j < lb.length), j < k → la[j] = lb[j])) (fun i _ => la.length - (intOf i).toNat)
    case atStart => exact ⟨0, by omega, rfl, hid (Below.refl _ _), hid fun j _ _ h => absurd h (Nat.not_lt_zero _)⟩
    case round =>
      obtain ⟨k, hk, rfl, hb, hs⟩ := hrel
      by_cases hlt : k < la.length
      · obtain ⟨ba, oa, rfl, ca⟩ := hca k hlt
        obtain ⟨bb, ob, rfl, cb⟩ := hcb k (by omega)
        have ca := cell_kept hb.out ca
        have cb := cell_kept hb.out cb
        clear hca hcb
        by_cases he : la[k] = lb[k]
        · have HE := hid he
          rw [← he] at cb
          clear he
          go_wp2
          go_quiet (fail)
          go_wp2
          go_roundw
          case rel => exact ⟨k + 1, by omega, by go_num, hid (below_drewN hb.out _), hid fun j h1 h2 h3 => by
            rcases Nat.lt_or_ge j k with q | q
            · exact hs.out j h1 h2 q
            · obtain rfl : j = k := by omega
              exact HE.out⟩
          case measure => simp [intOf]; omega
        · have E := hid (sameZ_no_at k hlt (by omega) he)
          go_wp2
          go_quiet (fail)
          go_wp2
          go_ret
          exact ⟨ret_b E.out.symm, below_drewN hb.out _⟩
      · have E := hid (sameZ_yes HL.out fun j h1 h2 => hs.out j h1 h2 (by omega))
        have hk8 : k = la.length := by omega
        subst hk8
        clear hl
        go_wp2
        go_ret
        exact ⟨ret_b E.out.symm, hb.out⟩
  · have E := hid (sameZ_no_len hl)
    go_enter Try.func107, Try.ntmps107
    go_wp2
    go_ret
    exact ⟨ret_b E.out.symm, Below.refl _ _⟩
set_option maxRecDepth 100000 in
theorem sameI1 (va vb : Value) (la lb : List Int) (w : World) (ha : RdZ w va la) (hb : RdZ w vb lb) :
    Calls Try.prog 106 #[va, vb] w fun e w' => e = .returned (.bool (sameZ la lb)) ∧ Below w.heap.size w w' := by
  obtain ⟨a, capa, rfl, q1, q2, hca⟩ := ha.parts
  have hmx : la.length ≤ maxLen := Nat.le_trans q1 q2
  unfold maxLen at hmx
  clear q1 q2
  obtain ⟨b, capb, rfl, -, -, hcb⟩ := hb.parts
  clear ha hb
  by_cases hl : la.length = lb.length
  · have HL := hid hl
    go_enter Try.func106, Try.ntmps106
    go_wp2
    go_loopw [13] (fun i wr => ∃ k : Nat, k ≤ la.length ∧ i = .int .i64 k ∧ Hid (Below w.heap.size w wr) ∧ Hid (∀ j (h1 : j < la.length) (h2 : j < lb.length), j < k → la[j] = lb[j])) (fun i _ => la.length - (intOf i).toNat)
    case atStart => exact ⟨0, by omega, rfl, hid (Below.refl _ _), hid fun j _ _ h => absurd h (Nat.not_lt_zero _)⟩
    case round =>
      obtain ⟨k, hk, rfl, hb, hs⟩ := hrel
      by_cases hlt : k < la.length
      · obtain ⟨ba, oa, rfl, ca⟩ := hca k hlt
        obtain ⟨bb, ob, rfl, cb⟩ := hcb k (by omega)
        have ca := cell_kept hb.out ca
        have cb := cell_kept hb.out cb
        clear hca hcb
        by_cases he : la[k] = lb[k]
        · have HE := hid he
          rw [← he] at cb
          clear he
          go_wp2
          go_quiet (fail)
          go_wp2
          go_roundw
          case rel => exact ⟨k + 1, by omega, by go_num, hid (below_drewN hb.out _), hid fun j h1 h2 h3 => by
            rcases Nat.lt_or_ge j k with q | q
            · exact hs.out j h1 h2 q
            · obtain rfl : j = k := by omega
              exact HE.out⟩
          case measure => simp [intOf]; omega
        · have E := hid (sameZ_no_at k hlt (by omega) he)
          go_wp2
          go_quiet (fail)
          go_wp2
          go_ret
          exact ⟨ret_b E.out.symm, below_drewN hb.out _⟩
      · have E := hid (sameZ_yes HL.out fun j h1 h2 => hs.out j h1 h2 (by omega))
        have hk8 : k = la.length := by omega
        subst hk8
        have hl3 : ¬ ((la.length : Int) < (lb.length : Int)) := by omega
        go_wp2
        go_ret
        exact ⟨ret_b E.out.symm, hb.out⟩
  · have E := hid (sameZ_no_len hl)
    go_enter Try.func106, Try.ntmps106
    go_wp2
    go_ret
    exact ⟨ret_b E.out.symm, Below.refl _ _⟩
set_option maxRecDepth 100000 in
theorem ssmw (p q : Int) (va vb : Value) (la lb : List Int) (w : World) (ha : RdZ w va la) (hb : RdZ w vb lb) (t : Bool) (ht : (p = q ∧ t = sameZ la lb) ∨ (¬ p = q ∧ t = false)) :
    Calls Try.prog 51 #[.agg #[.int .i64 p, va], .agg #[.int .i64 q, vb]] w fun e w' => e = .returned (.bool t) ∧ Below w.heap.size w w' := by
  have HA := hid ha
  have HB := hid hb
  obtain ⟨a, ca, rfl, -, -, -⟩ := ha.parts
  obtain ⟨b, cb, rfl, -, -, -⟩ := hb.parts
  clear ha hb
  rcases ht with ⟨rfl, rfl⟩ | ⟨hn, rfl⟩
  · go_enter Try.func51, Try.ntmps51
    go_wp2_with fail
    refine (sameS1 _ _ la lb _ (HA.out.below (below_alloc2 w _ _)) (HB.out.below (below_alloc2 w _ _))).mono ?_
    rintro e w' ⟨rfl, hB⟩
    have BB := hid ((below_alloc2 w _ _).trans (hB.mono (by simp; omega)))
    clear hB
    obtain ⟨t, ht⟩ : ∃ t, t = sameZ la lb := ⟨_, rfl⟩
    rw [← ht]
    have HT := hid ht
    clear ht
    go_wp2
    go_ret
    exact ⟨ret_b HT.out, BB.out⟩
  · go_enter Try.func51, Try.ntmps51
    go_wp2
    go_ret
    exact ⟨rfl, below_alloc2 w _ _⟩
set_option maxRecDepth 100000 in
theorem ismw (p q : Int) (va vb : Value) (la lb : List Int) (w : World) (ha : RdZ w va la) (hb : RdZ w vb lb) (t : Bool) (ht : (p = q ∧ t = sameZ la lb) ∨ (¬ p = q ∧ t = false)) :
    Calls Try.prog 50 #[.agg #[.int .i64 p, va], .agg #[.int .i64 q, vb]] w fun e w' => e = .returned (.bool t) ∧ Below w.heap.size w w' := by
  have HA := hid ha
  have HB := hid hb
  obtain ⟨a, ca, rfl, -, -, -⟩ := ha.parts
  obtain ⟨b, cb, rfl, -, -, -⟩ := hb.parts
  clear ha hb
  rcases ht with ⟨rfl, rfl⟩ | ⟨hn, rfl⟩
  · go_enter Try.func50, Try.ntmps50
    go_wp2_with fail
    refine (sameI1 _ _ la lb _ (HA.out.below (below_alloc2 w _ _)) (HB.out.below (below_alloc2 w _ _))).mono ?_
    rintro e w' ⟨rfl, hB⟩
    have BB := hid ((below_alloc2 w _ _).trans (hB.mono (by simp; omega)))
    clear hB
    obtain ⟨t, ht⟩ : ∃ t, t = sameZ la lb := ⟨_, rfl⟩
    rw [← ht]
    have HT := hid ht
    clear ht
    go_wp2
    go_ret
    exact ⟨ret_b HT.out, BB.out⟩
  · go_enter Try.func50, Try.ntmps50
    go_wp2
    go_ret
    exact ⟨rfl, below_alloc2 w _ _⟩
end Go.Proofs.Ytalaolfcdaaaoaa.W

namespace Go.Proofs.Ytalaolfcdaaaoaa.W
open Go.ChangeShapes Go.WideShapes Go.ChangeAt Go.RowKit
open Go.Proofs.Ytalaolfcdaaaoaa.M

theorem fldX0 (c : Int) (a : Option Addr) (n k : Nat) (w : World) : (Instr.field 34 (.agg #[.int .i64 c, .slice a n k]) 0).run Try.prog w = .ok (.int .i64 c) w := by kernel_rfl
theorem fldX1 (c : Int) (a : Option Addr) (n k : Nat) (w : World) : (Instr.field 34 (.agg #[.int .i64 c, .slice a n k]) 1).run Try.prog w = .ok (.slice a n k) w := by kernel_rfl
theorem fldXR (c d : Int) (a : Option Addr) (n k : Nat) (w : World) : (Instr.field 73 (.agg #[.int .i64 c, .int .i64 d, .slice a n k]) 0).run Try.prog w = .ok (.int .i64 c) w := by kernel_rfl
theorem fldXW (w : World) : (Instr.field 69 (.agg #[.int .i64 (-1), .slice none 0 0]) 0).run Try.prog w = .ok (.int .i64 (-1)) w := by kernel_rfl
theorem same_some (p q : Int) (la lb : List Int) : ∃ t : Bool, (p = q ∧ t = sameZ la lb) ∨ (¬ p = q ∧ t = false) := by
  by_cases h : p = q
  · exact ⟨_, .inl ⟨h, rfl⟩⟩
  · exact ⟨_, .inr ⟨h, rfl⟩⟩
theorem wrap16w {T : Int} (h : -1 ≤ T ∧ T ≤ 1000000000) : wrap64 (T - 16) = T - 16 := by
  unfold wrap64
  omega
set_option maxHeartbeats 16000000 in
set_option maxRecDepth 100000 in
theorem law_wd (v : Value) (l : List Nat) (w : World) (h : Rd w v l) (y : Byt l) :
    Calls Try.prog 6 #[v] w fun e w' => e = .returned (.bool true) ∧ Below w.heap.size w w' := by
  have RC := hid h
  obtain ⟨q, cap, rfl, _, _, _⟩ := h.parts
  clear h
  by_cases hl : l.length ≤ 1048576
  case neg =>
    go_enter Try.func6, Try.ntmps6
    go_wp2_with (go_at_call 9; go_in)
    go_ret
    exact ⟨rfl, Below.refl _ _⟩
  go_enter Try.func6, Try.ntmps6
  go_wp2_with (go_at_call 9; go_in)
  refine (drTc _ l _ RC.out y hl).mono ?_
  rintro e w1 ⟨top, n, u, xs, rfl, hU, hWU, hB⟩
  obtain ⟨pu, cu, rfl, -, -, -⟩ := hU.parts
  replace RC := hid (RC.out.below hB)
  have BB := hid hB
  have HU := hid hU
  have WU := hid hWU
  clear hB hU hWU
  have VW := hid (heap_alloc_new w1 (.cells #[.int .i64 top, .slice pu xs.length cu] 69))
  have hA := below_alloc1 w1 (.cells #[.int .i64 top, .slice pu xs.length cu] 69)
  replace RC := hid (RC.out.below hA)
  replace HU := hid (HU.out.below hA)
  replace BB := hid (BB.out.trans (hA.mono BB.out.size))
  clear hA
  obtain ⟨a0, a1, -, -⟩ := var2_facts VW.out
  go_wp2_with fail
  generalize w1.alloc (.cells #[.int .i64 top, .slice pu xs.length cu] 69) = w2 at *
  obtain ⟨gw, hg⟩ : ∃ g, g = w1.heap.size := ⟨_, rfl⟩
  rw [← hg] at VW ⊢
  clear hg
  clear a0 a1
  obtain ⟨c, rk, lr, hF⟩ := tc_some top xs n
  have TF := hid hF
  clear hF
  refine (itc top n _ xs c rk lr _ HU.out WU.out.1 (Nat.le_trans WU.out.2 (by omega)) TF.out).mono ?_
  rintro e w3 ⟨u, rfl, hO, hB⟩
  obtain ⟨pl, cl, rfl, -, -, -⟩ := hO.rd.parts
  replace RC := hid (RC.out.below hB)
  replace HU := hid (HU.out.below hB)
  replace VW := hid (var_below hB VW.out)
  replace BB := hid (BB.out.trans (hB.mono BB.out.size))
  clear hB
  have HLR := hid hO.rd
  clear hO
  have VT := hid (heap_alloc_new w3 (.cells #[.int .i64 c, .int .i64 rk, .slice pl lr.length cl] 73))
  have hA := below_alloc1 w3 (.cells #[.int .i64 c, .int .i64 rk, .slice pl lr.length cl] 73)
  replace RC := hid (RC.out.below hA)
  replace HU := hid (HU.out.below hA)
  replace HLR := hid (HLR.out.below hA)
  replace VW := hid (var_below hA VW.out)
  replace BB := hid (BB.out.trans (hA.mono BB.out.size))
  clear hA
  go_wp2_with fail
  generalize w3.alloc (.cells #[.int .i64 c, .int .i64 rk, .slice pl lr.length cl] 73) = w4 at *
  obtain ⟨gt, hg⟩ : ∃ g, g = w3.heap.size := ⟨_, rfl⟩
  rw [← hg] at VT ⊢
  clear hg
  refine (drTa _ l _ RC.out y hl).mono ?_
  rintro e w5 ⟨top2, u, uz, ys, zs, rfl, hV, hWV, hZ, hzl, hB⟩
  obtain ⟨pv, cv, rfl, -, -, -⟩ := hV.parts
  obtain ⟨pz, cz, rfl, -, -, -⟩ := hZ.parts
  replace RC := hid (RC.out.below hB)
  replace HU := hid (HU.out.below hB)
  replace HLR := hid (HLR.out.below hB)
  replace VW := hid (var_below hB VW.out)
  replace VT := hid (var_below hB VT.out)
  replace BB := hid (BB.out.trans (hB.mono BB.out.size))
  clear hB
  have HV := hid hV
  have WV := hid hWV
  have HZ := hid hZ
  clear hV hWV hZ
  have VX := hid (heap_alloc_new w5 (.cells #[.int .i64 top2, .slice pv ys.length cv] 69))
  have hA := below_alloc1 w5 (.cells #[.int .i64 top2, .slice pv ys.length cv] 69)
  replace RC := hid (RC.out.below hA)
  replace HU := hid (HU.out.below hA)
  replace HLR := hid (HLR.out.below hA)
  replace HV := hid (HV.out.below hA)
  replace HZ := hid (HZ.out.below hA)
  replace VW := hid (var_below hA VW.out)
  replace VT := hid (var_below hA VT.out)
  replace BB := hid (BB.out.trans (hA.mono BB.out.size))
  clear hA
  obtain ⟨x_0, x_1, -, -⟩ := var2_facts VX.out
  go_wp2_with fail
  generalize w5.alloc (.cells #[.int .i64 top2, .slice pv ys.length cv] 69) = w6 at *
  obtain ⟨gx, hg⟩ : ∃ g, g = w5.heap.size := ⟨_, rfl⟩
  rw [← hg] at VX ⊢
  clear hg
  clear x_0 x_1
  obtain ⟨ca, la, hF⟩ := ta_some top2 ys zs
  have AF := hid hF
  clear hF
  refine (ita top2 _ _ ys zs ca la _ HV.out HZ.out WV.out.1 (Nat.le_trans WV.out.2 (by omega)) AF.out).mono ?_
  rintro e w7 ⟨u, rfl, hO, hB⟩
  obtain ⟨pa, ka, rfl, -, -, -⟩ := hO.rd.parts
  replace RC := hid (RC.out.below hB)
  replace HU := hid (HU.out.below hB)
  replace HLR := hid (HLR.out.below hB)
  replace HV := hid (HV.out.below hB)
  replace HZ := hid (HZ.out.below hB)
  replace VW := hid (var_below hB VW.out)
  replace VT := hid (var_below hB VT.out)
  replace VX := hid (var_below hB VX.out)
  replace BB := hid (BB.out.trans (hB.mono BB.out.size))
  clear hB
  have HLA := hid hO.rd
  clear hO
  have VA := hid (heap_alloc_new w7 (.cells #[.int .i64 ca, .slice pa la.length ka] 34))
  have hA := below_alloc1 w7 (.cells #[.int .i64 ca, .slice pa la.length ka] 34)
  replace RC := hid (RC.out.below hA)
  replace HU := hid (HU.out.below hA)
  replace HLR := hid (HLR.out.below hA)
  replace HV := hid (HV.out.below hA)
  replace HZ := hid (HZ.out.below hA)
  replace HLA := hid (HLA.out.below hA)
  replace VW := hid (var_below hA VW.out)
  replace VT := hid (var_below hA VT.out)
  replace VX := hid (var_below hA VX.out)
  replace BB := hid (BB.out.trans (hA.mono BB.out.size))
  clear hA
  go_wp2_with fail
  generalize w7.alloc (.cells #[.int .i64 ca, .slice pa la.length ka] 34) = w8 at *
  obtain ⟨ga, hg⟩ : ∃ g, g = w7.heap.size := ⟨_, rfl⟩
  rw [← hg] at VA ⊢
  clear hg
  refine (drSn _ l _ RC.out y hl).mono ?_
  rintro e w9 ⟨wp, wq, ua, ub, ps, qs, rfl, hP, hQ, hB⟩
  obtain ⟨pp, cp, rfl, -, -, -⟩ := hP.parts
  obtain ⟨pq, cq, rfl, -, -, -⟩ := hQ.parts
  replace RC := hid (RC.out.below hB)
  replace HU := hid (HU.out.below hB)
  replace HLR := hid (HLR.out.below hB)
  replace HV := hid (HV.out.below hB)
  replace HZ := hid (HZ.out.below hB)
  replace HLA := hid (HLA.out.below hB)
  replace VW := hid (var_below hB VW.out)
  replace VT := hid (var_below hB VT.out)
  replace VX := hid (var_below hB VX.out)
  replace VA := hid (var_below hB VA.out)
  replace BB := hid (BB.out.trans (hB.mono BB.out.size))
  clear hB
  have HP := hid hP
  have HQ := hid hQ
  clear hP hQ RC
  have VP := hid (heap_alloc2_old w9 (.cells #[.int .i64 wp, .slice pp ps.length cp] 69) (.cells #[.int .i64 wq, .slice pq qs.length cq] 69))
  have VQ := hid (heap_alloc2_new w9 (.cells #[.int .i64 wp, .slice pp ps.length cp] 69) (.cells #[.int .i64 wq, .slice pq qs.length cq] 69))
  have hA := below_alloc2 w9 (.cells #[.int .i64 wp, .slice pp ps.length cp] 69) (.cells #[.int .i64 wq, .slice pq qs.length cq] 69)
  replace HU := hid (HU.out.below hA)
  replace HLR := hid (HLR.out.below hA)
  replace HV := hid (HV.out.below hA)
  replace HZ := hid (HZ.out.below hA)
  replace HLA := hid (HLA.out.below hA)
  replace HP := hid (HP.out.below hA)
  replace HQ := hid (HQ.out.below hA)
  replace VW := hid (var_below hA VW.out)
  replace VT := hid (var_below hA VT.out)
  replace VX := hid (var_below hA VX.out)
  replace VA := hid (var_below hA VA.out)
  replace BB := hid (BB.out.trans (hA.mono BB.out.size))
  clear hA
  go_upto_region 8 with fail
  generalize (w9.alloc (.cells #[.int .i64 wp, .slice pp ps.length cp] 69)).alloc (.cells #[.int .i64 wq, .slice pq qs.length cq] 69) = w10 at *
  obtain ⟨gq, hgq⟩ : ∃ g, g = w9.heap.size + 1 := ⟨_, rfl⟩
  rw [← hgq] at VQ ⊢
  obtain ⟨gp, hgp⟩ : ∃ g, g = w9.heap.size := ⟨_, rfl⟩
  rw [← hgp] at VP ⊢
  clear hgp hgq
  obtain ⟨E, hE⟩ := same_some wp wq ps qs
  have EE := hid hE
  clear hE
  obtain ⟨B, hB⟩ : ∃ B, B = newsB top xs n := ⟨_, rfl⟩
  have EB0 := hid hB.symm
  have EB1 := hid (show (c == 0) = B by rw [hB, TF.out.news]; cases h : (c == 0) <;> simp_all)
  have EB2 := hid (show decide (c = 0) = B by rw [hB, TF.out.news])
  clear hB
  have LA := hid (show la.length ≤ 1048576 from Nat.le_trans AF.out.len (by omega))
  obtain ⟨F, hF⟩ : ∃ F, F = wF top xs := ⟨_, rfl⟩
  have FF := hid hF.symm
  clear hF
  obtain ⟨a0, a1, -, -⟩ := var2_facts VW.out
  obtain ⟨⟨t0, t1, t2⟩, -⟩ := var3_facts VT.out
  obtain ⟨x_0, x_1, -, -⟩ := var2_facts VX.out
  obtain ⟨b0, b1, -, -⟩ := var2_facts VA.out
  obtain ⟨v_0, v_1, -, -⟩ := var2_facts VP.out
  obtain ⟨u_0, u_1, -, -⟩ := var2_facts VQ.out
  refine wp_region_held_drew (S := fun w' => Below w10.heap.size w10 w') (by kernel_rfl) (Below.refl _ _).drew (fun hH => ?_)
  generalize w10.drew = y0 at hH ⊢
  refine wpAnyH_take (i := 0) (v := .pointer (some ⟨gt, 0, none⟩)) (by simp only [List.getElem?_toArray, List.getElem?_cons_zero]; rfl) (by kernel_rfl) (by kernel_rfl) (by kernel_rfl) (by intro _ _ _ h; exact h) (Or.inl ⟨by rfl, fun w hS => by go_simp⟩) hH ?_
  simp only [Act.put, List.setIfInBounds_toArray, List.set_cons_zero, List.set_cons_succ]
  refine wpAnyH_take (i := 1) (v := .int .i64 c) (by simp only [List.getElem?_toArray, List.getElem?_cons_succ, List.getElem?_cons_zero]; rfl) (by kernel_rfl) (by kernel_rfl) (by kernel_rfl) (by intro _ _ _ h; exact h) (Or.inl ⟨by rfl, fun w hS => by (have y0 := cell_kept hS t0; go_simp)⟩) hH ?_
  simp only [Act.put, List.setIfInBounds_toArray, List.set_cons_zero, List.set_cons_succ]
  refine wpAnyH_take (i := 2) (v := .agg #[.int .i64 top, .slice pu xs.length cu]) (by simp only [List.getElem?_toArray, List.getElem?_cons_succ, List.getElem?_cons_zero]; rfl) (by kernel_rfl) (by kernel_rfl) (by kernel_rfl) (by intro _ _ _ h; exact h) (Or.inl ⟨by rfl, fun w hS => by (have y0 := cell_kept hS a0; have y1 := cell_kept hS a1; go_simp)⟩) hH ?_
  simp only [Act.put, List.setIfInBounds_toArray, List.set_cons_zero, List.set_cons_succ]
  refine wpAnyH_take (i := 3) (v := .int .i64 n) (by simp only [List.getElem?_toArray, List.getElem?_cons_succ, List.getElem?_cons_zero]; rfl) (by kernel_rfl) (by kernel_rfl) (by kernel_rfl) (by intro _ _ _ h; exact h) (Or.inl ⟨by rfl, fun w hS => by go_simp⟩) hH ?_
  simp only [Act.put, List.setIfInBounds_toArray, List.set_cons_zero, List.set_cons_succ]
  refine wpAnyH_ready (rs := [4]) (by kernel_rfl) (by simp) ?_
  refine AllReadyH.cons (by simp only [List.getElem?_toArray, List.getElem?_cons_succ, List.getElem?_cons_zero]; rfl) (fun K hK => ?_) AllReadyH.nil
  go_simp
  refine (stc top n _ xs c rk lr _ (HU.out.below hH) (Nat.le_trans WU.out.2 (by omega)) TF.out).mono ?_
  rintro e x4 ⟨ux, rfl, hX, hM⟩
  obtain ⟨p1, k1, rfl, -, -, -⟩ := hX.parts
  clear hX
  refine hK.out _ _ (hH.trans (hM.mono hH.size)) (fun hH => ?_)
  clear hK K hM
  refine wpAnyH_take (i := 5) (v := .int .i64 c) (by simp only [List.getElem?_toArray, List.getElem?_cons_succ, List.getElem?_cons_zero]; rfl) (by kernel_rfl) (by kernel_rfl) (by kernel_rfl) (by intro _ _ _ h; exact h) (Or.inl ⟨by rfl, fun w hS => by (have hf := fldXR c rk p1 lr.length k1; go_simp)⟩) hH ?_
  simp only [Act.put, List.setIfInBounds_toArray, List.set_cons_zero, List.set_cons_succ]
  refine wpAnyH_take (i := 6) (v := .bool false) (by simp only [List.getElem?_toArray, List.getElem?_cons_succ, List.getElem?_cons_zero]; rfl) (by kernel_rfl) (by kernel_rfl) (by kernel_rfl) (by intro _ _ _ h; exact h) (Or.inl ⟨by rfl, fun w hS => by go_simp⟩) hH ?_
  simp only [Act.put, List.setIfInBounds_toArray, List.set_cons_zero, List.set_cons_succ]
  refine wpAnyH_take (i := 7) (v := .bool false) (by simp only [List.getElem?_toArray, List.getElem?_cons_succ, List.getElem?_cons_zero]; rfl) (by kernel_rfl) (by kernel_rfl) (by kernel_rfl) (by intro _ _ _ h; exact h) (Or.inl ⟨by rfl, fun w hS => by go_simp⟩) hH ?_
  simp only [Act.put, List.setIfInBounds_toArray, List.set_cons_zero, List.set_cons_succ]
  refine wpAnyH_take (i := 8) (v := .pointer (some ⟨ga, 0, none⟩)) (by simp only [List.getElem?_toArray, List.getElem?_cons_succ, List.getElem?_cons_zero]; rfl) (by kernel_rfl) (by kernel_rfl) (by kernel_rfl) (by intro _ _ _ h; exact h) (Or.inl ⟨by rfl, fun w hS => by go_simp⟩) hH ?_
  simp only [Act.put, List.setIfInBounds_toArray, List.set_cons_zero, List.set_cons_succ]
  refine wpAnyH_take (i := 9) (v := .int .i64 ca) (by simp only [List.getElem?_toArray, List.getElem?_cons_succ, List.getElem?_cons_zero]; rfl) (by kernel_rfl) (by kernel_rfl) (by kernel_rfl) (by intro _ _ _ h; exact h) (Or.inl ⟨by rfl, fun w hS => by (have y0 := cell_kept hS b0; go_simp)⟩) hH ?_
  simp only [Act.put, List.setIfInBounds_toArray, List.set_cons_zero, List.set_cons_succ]
  refine wpAnyH_take (i := 10) (v := .agg #[.int .i64 top2, .slice pv ys.length cv]) (by simp only [List.getElem?_toArray, List.getElem?_cons_succ, List.getElem?_cons_zero]; rfl) (by kernel_rfl) (by kernel_rfl) (by kernel_rfl) (by intro _ _ _ h; exact h) (Or.inl ⟨by rfl, fun w hS => by (have y0 := cell_kept hS x_0; have y1 := cell_kept hS x_1; go_simp)⟩) hH ?_
  simp only [Act.put, List.setIfInBounds_toArray, List.set_cons_zero, List.set_cons_succ]
  refine wpAnyH_take (i := 11) (v := .slice pz zs.length cz) (by simp only [List.getElem?_toArray, List.getElem?_cons_succ, List.getElem?_cons_zero]; rfl) (by kernel_rfl) (by kernel_rfl) (by kernel_rfl) (by intro _ _ _ h; exact h) (Or.inl ⟨by rfl, fun w hS => by go_simp⟩) hH ?_
  simp only [Act.put, List.setIfInBounds_toArray, List.set_cons_zero, List.set_cons_succ]
  refine wpAnyH_ready (rs := [12]) (by kernel_rfl) (by simp) ?_
  refine AllReadyH.cons (by simp only [List.getElem?_toArray, List.getElem?_cons_succ, List.getElem?_cons_zero]; rfl) (fun K hK => ?_) AllReadyH.nil
  go_simp
  refine (sta top2 _ _ ys zs ca la _ (HV.out.below hH) (HZ.out.below hH) (Nat.le_trans WV.out.2 (by omega)) AF.out).mono ?_
  rintro e x12 ⟨ux, rfl, hX, hM⟩
  obtain ⟨p2, k2, rfl, -, -, -⟩ := hX.parts
  clear hX
  refine hK.out _ _ (hH.trans (hM.mono hH.size)) (fun hH => ?_)
  clear hK K hM
  refine wpAnyH_take (i := 13) (v := .int .i64 ca) (by simp only [List.getElem?_toArray, List.getElem?_cons_succ, List.getElem?_cons_zero]; rfl) (by kernel_rfl) (by kernel_rfl) (by kernel_rfl) (by intro _ _ _ h; exact h) (Or.inl ⟨by rfl, fun w hS => by (have hf := fldX0 ca p2 la.length k2; go_simp)⟩) hH ?_
  simp only [Act.put, List.setIfInBounds_toArray, List.set_cons_zero, List.set_cons_succ]
  refine wpAnyH_take (i := 14) (v := .bool false) (by simp only [List.getElem?_toArray, List.getElem?_cons_succ, List.getElem?_cons_zero]; rfl) (by kernel_rfl) (by kernel_rfl) (by kernel_rfl) (by intro _ _ _ h; exact h) (Or.inl ⟨by rfl, fun w hS => by go_simp⟩) hH ?_
  simp only [Act.put, List.setIfInBounds_toArray, List.set_cons_zero, List.set_cons_succ]
  refine wpAnyH_take (i := 15) (v := .bool false) (by simp only [List.getElem?_toArray, List.getElem?_cons_succ, List.getElem?_cons_zero]; rfl) (by kernel_rfl) (by kernel_rfl) (by kernel_rfl) (by intro _ _ _ h; exact h) (Or.inl ⟨by rfl, fun w hS => by go_simp⟩) hH ?_
  simp only [Act.put, List.setIfInBounds_toArray, List.set_cons_zero, List.set_cons_succ]
  refine wpAnyH_take (i := 16) (v := .bool false) (by simp only [List.getElem?_toArray, List.getElem?_cons_succ, List.getElem?_cons_zero]; rfl) (by kernel_rfl) (by kernel_rfl) (by kernel_rfl) (by intro _ _ _ h; exact h) (Or.inl ⟨by rfl, fun w hS => by go_simp⟩) hH ?_
  simp only [Act.put, List.setIfInBounds_toArray, List.set_cons_zero, List.set_cons_succ]
  refine wpAnyH_take (i := 17) (v := .agg #[.int .i64 top, .slice pu xs.length cu]) (by simp only [List.getElem?_toArray, List.getElem?_cons_succ, List.getElem?_cons_zero]; rfl) (by kernel_rfl) (by kernel_rfl) (by kernel_rfl) (by intro _ _ _ h; exact h) (Or.inl ⟨by rfl, fun w hS => by (have y0 := cell_kept hS a0; have y1 := cell_kept hS a1; go_simp)⟩) hH ?_
  simp only [Act.put, List.setIfInBounds_toArray, List.set_cons_zero, List.set_cons_succ]
  refine wpAnyH_take (i := 18) (v := .int .i64 n) (by simp only [List.getElem?_toArray, List.getElem?_cons_succ, List.getElem?_cons_zero]; rfl) (by kernel_rfl) (by kernel_rfl) (by kernel_rfl) (by intro _ _ _ h; exact h) (Or.inl ⟨by rfl, fun w hS => by go_simp⟩) hH ?_
  simp only [Act.put, List.setIfInBounds_toArray, List.set_cons_zero, List.set_cons_succ]
  refine wpAnyH_take (i := 20) (v := .pointer (some ⟨gt, 0, none⟩)) (by simp only [List.getElem?_toArray, List.getElem?_cons_succ, List.getElem?_cons_zero]; rfl) (by kernel_rfl) (by kernel_rfl) (by kernel_rfl) (by intro _ _ _ h; exact h) (Or.inl ⟨by rfl, fun w hS => by go_simp⟩) hH ?_
  simp only [Act.put, List.setIfInBounds_toArray, List.set_cons_zero, List.set_cons_succ]
  refine wpAnyH_take (i := 21) (v := .int .i64 c) (by simp only [List.getElem?_toArray, List.getElem?_cons_succ, List.getElem?_cons_zero]; rfl) (by kernel_rfl) (by kernel_rfl) (by kernel_rfl) (by intro _ _ _ h; exact h) (Or.inl ⟨by rfl, fun w hS => by (have y0 := cell_kept hS t0; go_simp)⟩) hH ?_
  simp only [Act.put, List.setIfInBounds_toArray, List.set_cons_zero, List.set_cons_succ]
  refine wpAnyH_take (i := 22) (v := .bool B) (by simp only [List.getElem?_toArray, List.getElem?_cons_succ, List.getElem?_cons_zero]; rfl) (by kernel_rfl) (by kernel_rfl) (by kernel_rfl) (by intro _ _ _ h; exact h) (Or.inl ⟨by rfl, fun w hS => by (first | (go_simp; exact EB1.out) | (go_simp; exact EB2.out) | (have e1 := EB1.out; go_simp))⟩) hH ?_
  simp only [Act.put, List.setIfInBounds_toArray, List.set_cons_zero, List.set_cons_succ]
  refine wpAnyH_ready (rs := [19]) (by kernel_rfl) (by simp) ?_
  refine AllReadyH.cons (by simp only [List.getElem?_toArray, List.getElem?_cons_succ, List.getElem?_cons_zero]; rfl) (fun K hK => ?_) AllReadyH.nil
  go_simp
  refine (inews top n _ xs _ (HU.out.below hH) WU.out.1 (Nat.le_trans WU.out.2 (by omega))).mono ?_
  rintro e x19 ⟨rfl, hM⟩
  rw [EB0.out]
  refine hK.out _ _ (hH.trans (hM.mono hH.size)) (fun hH => ?_)
  clear hK K hM
  refine wpAnyH_take (i := 23) (v := .bool false) (by simp only [List.getElem?_toArray, List.getElem?_cons_succ, List.getElem?_cons_zero]; rfl) (by kernel_rfl) (by kernel_rfl) (by kernel_rfl) (by intro _ _ _ h; exact h) (Or.inl ⟨by rfl, fun w hS => by (cases B <;> go_simp)⟩) hH ?_
  simp only [Act.put, List.setIfInBounds_toArray, List.set_cons_zero, List.set_cons_succ]
  refine wpAnyH_take (i := 24) (v := .bool false) (by simp only [List.getElem?_toArray, List.getElem?_cons_succ, List.getElem?_cons_zero]; rfl) (by kernel_rfl) (by kernel_rfl) (by kernel_rfl) (by intro _ _ _ h; exact h) (Or.inl ⟨by rfl, fun w hS => by go_simp⟩) hH ?_
  simp only [Act.put, List.setIfInBounds_toArray, List.set_cons_zero, List.set_cons_succ]
  refine wpAnyH_take (i := 25) (v := .bool false) (by simp only [List.getElem?_toArray, List.getElem?_cons_succ, List.getElem?_cons_zero]; rfl) (by kernel_rfl) (by kernel_rfl) (by kernel_rfl) (by intro _ _ _ h; exact h) (Or.inl ⟨by rfl, fun w hS => by go_simp⟩) hH ?_
  simp only [Act.put, List.setIfInBounds_toArray, List.set_cons_zero, List.set_cons_succ]
  refine wpAnyH_take (i := 26) (v := .agg #[.int .i64 top, .slice pu xs.length cu]) (by simp only [List.getElem?_toArray, List.getElem?_cons_succ, List.getElem?_cons_zero]; rfl) (by kernel_rfl) (by kernel_rfl) (by kernel_rfl) (by intro _ _ _ h; exact h) (Or.inl ⟨by rfl, fun w hS => by (have y0 := cell_kept hS a0; have y1 := cell_kept hS a1; go_simp)⟩) hH ?_
  simp only [Act.put, List.setIfInBounds_toArray, List.set_cons_zero, List.set_cons_succ]
  refine wpAnyH_take (i := 28) (v := .agg #[.int .i64 top, .slice pu xs.length cu]) (by simp only [List.getElem?_toArray, List.getElem?_cons_succ, List.getElem?_cons_zero]; rfl) (by kernel_rfl) (by kernel_rfl) (by kernel_rfl) (by intro _ _ _ h; exact h) (Or.inl ⟨by rfl, fun w hS => by (have y0 := cell_kept hS a0; have y1 := cell_kept hS a1; go_simp)⟩) hH ?_
  simp only [Act.put, List.setIfInBounds_toArray, List.set_cons_zero, List.set_cons_succ]
  refine wpAnyH_ready (rs := [27]) (by kernel_rfl) (by simp) ?_
  refine AllReadyH.cons (by simp only [List.getElem?_toArray, List.getElem?_cons_succ, List.getElem?_cons_zero]; rfl) (fun K hK => ?_) AllReadyH.nil
  go_simp
  refine (iwf top _ xs _ (HU.out.below hH) WU.out.1 (Nat.le_trans WU.out.2 (by omega))).mono ?_
  rintro e x27 ⟨rfl, hM⟩
  rw [FF.out]
  refine hK.out _ _ (hH.trans (hM.mono hH.size)) (fun hH => ?_)
  clear hK K hM
  refine wpAnyH_ready (rs := [29]) (by kernel_rfl) (by simp) ?_
  refine AllReadyH.cons (by simp only [List.getElem?_toArray, List.getElem?_cons_succ, List.getElem?_cons_zero]; rfl) (fun K hK => ?_) AllReadyH.nil
  go_simp
  refine (swf top _ xs _ (HU.out.below hH)).mono ?_
  rintro e x29 ⟨rfl, hM⟩
  rw [FF.out]
  refine hK.out _ _ (hH.trans (hM.mono hH.size)) (fun hH => ?_)
  clear hK K hM
  refine wpAnyH_take (i := 30) (v := .bool false) (by simp only [List.getElem?_toArray, List.getElem?_cons_succ, List.getElem?_cons_zero]; rfl) (by kernel_rfl) (by kernel_rfl) (by kernel_rfl) (by intro _ _ _ h; exact h) (Or.inl ⟨by rfl, fun w hS => by go_simp⟩) hH ?_
  simp only [Act.put, List.setIfInBounds_toArray, List.set_cons_zero, List.set_cons_succ]
  refine wpAnyH_take (i := 31) (v := .bool false) (by simp only [List.getElem?_toArray, List.getElem?_cons_succ, List.getElem?_cons_zero]; rfl) (by kernel_rfl) (by kernel_rfl) (by kernel_rfl) (by intro _ _ _ h; exact h) (Or.inl ⟨by rfl, fun w hS => by go_simp⟩) hH ?_
  simp only [Act.put, List.setIfInBounds_toArray, List.set_cons_zero, List.set_cons_succ]
  refine wpAnyH_take (i := 32) (v := .bool false) (by simp only [List.getElem?_toArray, List.getElem?_cons_succ, List.getElem?_cons_zero]; rfl) (by kernel_rfl) (by kernel_rfl) (by kernel_rfl) (by intro _ _ _ h; exact h) (Or.inl ⟨by rfl, fun w hS => by go_simp⟩) hH ?_
  simp only [Act.put, List.setIfInBounds_toArray, List.set_cons_zero, List.set_cons_succ]
  refine wpAnyH_take (i := 33) (v := .agg #[.int .i64 wp, .slice pp ps.length cp]) (by simp only [List.getElem?_toArray, List.getElem?_cons_succ, List.getElem?_cons_zero]; rfl) (by kernel_rfl) (by kernel_rfl) (by kernel_rfl) (by intro _ _ _ h; exact h) (Or.inl ⟨by rfl, fun w hS => by (have y0 := cell_kept hS v_0; have y1 := cell_kept hS v_1; go_simp)⟩) hH ?_
  simp only [Act.put, List.setIfInBounds_toArray, List.set_cons_zero, List.set_cons_succ]
  refine wpAnyH_take (i := 34) (v := .agg #[.int .i64 wq, .slice pq qs.length cq]) (by simp only [List.getElem?_toArray, List.getElem?_cons_succ, List.getElem?_cons_zero]; rfl) (by kernel_rfl) (by kernel_rfl) (by kernel_rfl) (by intro _ _ _ h; exact h) (Or.inl ⟨by rfl, fun w hS => by (have y0 := cell_kept hS u_0; have y1 := cell_kept hS u_1; go_simp)⟩) hH ?_
  simp only [Act.put, List.setIfInBounds_toArray, List.set_cons_zero, List.set_cons_succ]
  refine wpAnyH_take (i := 36) (v := .agg #[.int .i64 wp, .slice pp ps.length cp]) (by simp only [List.getElem?_toArray, List.getElem?_cons_succ, List.getElem?_cons_zero]; rfl) (by kernel_rfl) (by kernel_rfl) (by kernel_rfl) (by intro _ _ _ h; exact h) (Or.inl ⟨by rfl, fun w hS => by (have y0 := cell_kept hS v_0; have y1 := cell_kept hS v_1; go_simp)⟩) hH ?_
  simp only [Act.put, List.setIfInBounds_toArray, List.set_cons_zero, List.set_cons_succ]
  refine wpAnyH_take (i := 37) (v := .agg #[.int .i64 wq, .slice pq qs.length cq]) (by simp only [List.getElem?_toArray, List.getElem?_cons_succ, List.getElem?_cons_zero]; rfl) (by kernel_rfl) (by kernel_rfl) (by kernel_rfl) (by intro _ _ _ h; exact h) (Or.inl ⟨by rfl, fun w hS => by (have y0 := cell_kept hS u_0; have y1 := cell_kept hS u_1; go_simp)⟩) hH ?_
  simp only [Act.put, List.setIfInBounds_toArray, List.set_cons_zero, List.set_cons_succ]
  refine wpAnyH_ready (rs := [35]) (by kernel_rfl) (by simp) ?_
  refine AllReadyH.cons (by simp only [List.getElem?_toArray, List.getElem?_cons_succ, List.getElem?_cons_zero]; rfl) (fun K hK => ?_) AllReadyH.nil
  go_simp
  refine (ismw wp wq _ _ ps qs _ (HP.out.below hH) (HQ.out.below hH) E EE.out).mono ?_
  rintro e x35 ⟨rfl, hM⟩
  refine hK.out _ _ (hH.trans (hM.mono hH.size)) (fun hH => ?_)
  clear hK K hM
  refine wpAnyH_ready (rs := [38]) (by kernel_rfl) (by simp) ?_
  refine AllReadyH.cons (by simp only [List.getElem?_toArray, List.getElem?_cons_succ, List.getElem?_cons_zero]; rfl) (fun K hK => ?_) AllReadyH.nil
  go_simp
  refine (ssmw wp wq _ _ ps qs _ (HP.out.below hH) (HQ.out.below hH) E EE.out).mono ?_
  rintro e x38 ⟨rfl, hM⟩
  refine hK.out _ _ (hH.trans (hM.mono hH.size)) (fun hH => ?_)
  clear hK K hM
  refine wpAnyH_take (i := 39) (v := .bool false) (by simp only [List.getElem?_toArray, List.getElem?_cons_succ, List.getElem?_cons_zero]; rfl) (by kernel_rfl) (by kernel_rfl) (by kernel_rfl) (by intro _ _ _ h; exact h) (Or.inl ⟨by rfl, fun w hS => by (cases E <;> go_simp)⟩) hH ?_
  simp only [Act.put, List.setIfInBounds_toArray, List.set_cons_zero, List.set_cons_succ]
  refine wpAnyH_take (i := 40) (v := .bool false) (by simp only [List.getElem?_toArray, List.getElem?_cons_succ, List.getElem?_cons_zero]; rfl) (by kernel_rfl) (by kernel_rfl) (by kernel_rfl) (by intro _ _ _ h; exact h) (Or.inl ⟨by rfl, fun w hS => by go_simp⟩) hH ?_
  simp only [Act.put, List.setIfInBounds_toArray, List.set_cons_zero, List.set_cons_succ]
  refine wpAnyH_take (i := 41) (v := .bool false) (by simp only [List.getElem?_toArray, List.getElem?_cons_succ, List.getElem?_cons_zero]; rfl) (by kernel_rfl) (by kernel_rfl) (by kernel_rfl) (by intro _ _ _ h; exact h) (Or.inl ⟨by rfl, fun w hS => by go_simp⟩) hH ?_
  simp only [Act.put, List.setIfInBounds_toArray, List.set_cons_zero, List.set_cons_succ]
  refine wpAnyH_take (i := 42) (v := .pointer (some ⟨ga, 1, none⟩)) (by simp only [List.getElem?_toArray, List.getElem?_cons_succ, List.getElem?_cons_zero]; rfl) (by kernel_rfl) (by kernel_rfl) (by kernel_rfl) (by intro _ _ _ h; exact h) (Or.inl ⟨by rfl, fun w hS => by go_simp⟩) hH ?_
  simp only [Act.put, List.setIfInBounds_toArray, List.set_cons_zero, List.set_cons_succ]
  refine wpAnyH_take (i := 43) (v := .slice pa la.length ka) (by simp only [List.getElem?_toArray, List.getElem?_cons_succ, List.getElem?_cons_zero]; rfl) (by kernel_rfl) (by kernel_rfl) (by kernel_rfl) (by intro _ _ _ h; exact h) (Or.inl ⟨by rfl, fun w hS => by (have y1 := cell_kept hS b1; go_simp)⟩) hH ?_
  simp only [Act.put, List.setIfInBounds_toArray, List.set_cons_zero, List.set_cons_succ]
  refine wpAnyH_take (i := 44) (v := .agg #[.int .i64 top2, .slice pv ys.length cv]) (by simp only [List.getElem?_toArray, List.getElem?_cons_succ, List.getElem?_cons_zero]; rfl) (by kernel_rfl) (by kernel_rfl) (by kernel_rfl) (by intro _ _ _ h; exact h) (Or.inl ⟨by rfl, fun w hS => by (have y0 := cell_kept hS x_0; have y1 := cell_kept hS x_1; go_simp)⟩) hH ?_
  simp only [Act.put, List.setIfInBounds_toArray, List.set_cons_zero, List.set_cons_succ]
  refine wpAnyH_take (i := 45) (v := .slice pz zs.length cz) (by simp only [List.getElem?_toArray, List.getElem?_cons_succ, List.getElem?_cons_zero]; rfl) (by kernel_rfl) (by kernel_rfl) (by kernel_rfl) (by intro _ _ _ h; exact h) (Or.inl ⟨by rfl, fun w hS => by go_simp⟩) hH ?_
  simp only [Act.put, List.setIfInBounds_toArray, List.set_cons_zero, List.set_cons_succ]
  refine wpAnyH_ready (rs := [46]) (by kernel_rfl) (by simp) ?_
  refine AllReadyH.cons (by simp only [List.getElem?_toArray, List.getElem?_cons_succ, List.getElem?_cons_zero]; rfl) (fun K hK => ?_) AllReadyH.nil
  go_simp
  refine (sta top2 _ _ ys zs ca la _ (HV.out.below hH) (HZ.out.below hH) (Nat.le_trans WV.out.2 (by omega)) AF.out).mono ?_
  rintro e x46 ⟨ux, rfl, hX, hM⟩
  obtain ⟨p3, k3, rfl, -, -, -⟩ := hX.parts
  have RQ := hid hX
  clear hX
  refine hK.out _ _ (hH.trans (hM.mono hH.size)) (fun hH => ?_)
  clear hK K hM
  refine wpAnyH_take (i := 47) (v := .slice p3 la.length k3) (by simp only [List.getElem?_toArray, List.getElem?_cons_succ, List.getElem?_cons_zero]; rfl) (by kernel_rfl) (by kernel_rfl) (by kernel_rfl) (by intro _ _ _ h; exact h) (Or.inl ⟨by rfl, fun w hS => by (have hf := fldX1 ca p3 la.length k3; go_simp)⟩) hH ?_
  simp only [Act.put, List.setIfInBounds_toArray, List.set_cons_zero, List.set_cons_succ]
  refine wpAnyH_ready (rs := [48]) (by kernel_rfl) (by simp) ?_
  refine AllReadyH.cons (by simp only [List.getElem?_toArray, List.getElem?_cons_succ, List.getElem?_cons_zero]; rfl) (fun K hK => ?_) AllReadyH.nil
  go_simp
  refine (lwnu _ _ la _ (HLA.out.below hH) RQ.out LA.out).mono ?_
  rintro e x48 ⟨rfl, hM⟩
  refine hK.out _ _ (hH.trans (hM.mono hH.size)) (fun hH => ?_)
  clear hK K hM
  clear RQ
  refine wpAnyH_take (i := 49) (v := .bool false) (by simp only [List.getElem?_toArray, List.getElem?_cons_succ, List.getElem?_cons_zero]; rfl) (by kernel_rfl) (by kernel_rfl) (by kernel_rfl) (by intro _ _ _ h; exact h) (Or.inl ⟨by rfl, fun w hS => by go_simp⟩) hH ?_
  simp only [Act.put, List.setIfInBounds_toArray, List.set_cons_zero, List.set_cons_succ]
  refine wpAnyH_take (i := 50) (v := .bool false) (by simp only [List.getElem?_toArray, List.getElem?_cons_succ, List.getElem?_cons_zero]; rfl) (by kernel_rfl) (by kernel_rfl) (by kernel_rfl) (by intro _ _ _ h; exact h) (Or.inl ⟨by rfl, fun w hS => by go_simp⟩) hH ?_
  simp only [Act.put, List.setIfInBounds_toArray, List.set_cons_zero, List.set_cons_succ]
  refine wpAnyH_done (by kernel_rfl) ?_ _
  have hB := hH
  clear hH a0 a1 t0 t1 t2 x_0 x_1 b0 b1 v_0 v_1 u_0 u_1
  replace HLR := hid (HLR.out.below hB)
  replace HZ := hid (HZ.out.below hB)
  replace HLA := hid (HLA.out.below hB)
  replace VW := hid (var_below hB VW.out)
  replace VT := hid (var_below hB VT.out)
  replace VA := hid (var_below hB VA.out)
  replace BB := hid (BB.out.trans (hB.mono BB.out.size))
  clear hB
  generalize x48 = w11 at *
  clear HU HV HP HQ VX VP VQ EE EB0 EB1 EB2 FF
  obtain ⟨h1, h2⟩ := ta_facts AF.out
  have PL := hid h1
  have PN := hid h2
  clear h1 h2
  have la200 := AF.out.len
  obtain ⟨vs, hvs⟩ : ∃ z, z = la.map (vAt zs) := ⟨_, rfl⟩
  rw [← hvs] at PN
  have VS := hid hvs
  clear hvs
  have VL := hid (show vs.length = la.length by rw [VS.out]; simp)
  have O0 := hid (owZ_litW (base := w11.heap.size) (heap_alloc_new w11 (.cells #[] 2)) (Nat.le_refl _))
  have B0 := hid (below_alloc1 w11 (.cells #[] 2))
  go_wp2_with fail
  generalize w11.alloc (.cells #[] 2) = w12 at *
  go_loopw [11, 12, 13] (fun sv i v13 wr => ∃ k : Nat, ∃ u u13 : Value, k ≤ la.length ∧ i = .int .i64 k ∧ sv = u ∧ v13 = u13 ∧ Hid (OwZ wr w11.heap.size u (vs.take k)) ∧ Hid (Below w11.heap.size w11 wr)) (fun _ i _ _ => la.length - (intOf i).toNat)
  case atStart => exact ⟨0, _, _, by omega, rfl, rfl, rfl, O0, B0⟩
  case round =>
    obtain ⟨k, u, u13, hk, rfl, rfl, rfl, OO, BL⟩ := hrel
    clear O0 B0
    obtain ⟨px, cx, rfl, -, -, -⟩ := OO.out.rd.parts
    have VAr := hid (var_below BL.out VA.out)
    obtain ⟨b0, b1, -, -⟩ := var2_facts VAr.out
    by_cases hlt : k < la.length
    · obtain ⟨j, ej, hj⟩ := PL.out k hlt
      obtain ⟨a2, c2, e, -, -, hcl⟩ := (HLA.out.below BL.out).parts
      cases e
      obtain ⟨ba, oa, rfl, cl0⟩ := hcl k hlt
      rw [ej] at cl0
      obtain ⟨a3, c3, e, -, -, hcz⟩ := (HZ.out.below BL.out).parts
      cases e
      obtain ⟨bz, oz, rfl, cz0⟩ := hcz j hj
      have kv : k < vs.length := by rw [VL.out]; exact hlt
      have EX := hid (show zs[j] = vs[k] by simp only [VS.out, List.getElem_map, vAt]; rw [ej]; simp [List.getD_eq_getElem?_getD, hj])
      have EQ := hid (vs_ne PN.out kv)
      have ES := hid (show vs.take (k + 1) = vs.take k ++ [vs[k]] from List.take_succ_eq_append_getElem kv)
      rw [EX.out] at cz0
      obtain ⟨X, hX⟩ : ∃ X, X = vs[k] := ⟨_, rfl⟩
      have LS := hid (show (vs.take k).length = k by rw [List.length_take]; have := kv; omega)
      obtain ⟨sl, hsl⟩ : ∃ s, s = vs.take k := ⟨_, rfl⟩
      rw [← hX] at cz0
      have EQ2 := hid (show ∀ i (hi : i < sl.length), (sl[i] == X) = false by subst hsl; subst hX; exact EQ.out)
      rw [← hX, ← hsl] at ES
      obtain ⟨tk, htk⟩ : ∃ z, z = vs.take (k + 1) := ⟨_, rfl⟩
      rw [← htk] at ES
      have HTK := hid htk
      clear htk
      rw [← hsl] at OO LS ⊢
      clear hX hsl EQ EX hcl hcz kv ej
      have l200 : sl.length ≤ 200 := by have := LS.out; omega
      have zl : zs.length ≤ 201 := hzl
      go_wp2_with fail
      go_loopw [14] (fun j ws => ∃ r : Nat, r ≤ sl.length ∧ j = .int .i64 r ∧ Hid (Below wr.heap.size wr ws)) (fun j _ => sl.length - (intOf j).toNat)
      case atStart => exact ⟨0, by omega, rfl, hid (Below.refl _ _)⟩
      case round =>
        obtain ⟨r, hr, rfl, BI⟩ := hrel
        by_cases hrt : r < sl.length
        · obtain ⟨a2, c2, e, -, -, hcz⟩ := (OO.out.below BI.out).rd.parts
          cases e
          obtain ⟨bs, os, rfl, cs⟩ := hcz r hrt
          have nq := EQ2.out r hrt
          obtain ⟨Z, hZ⟩ : ∃ Z, Z = sl[r] := ⟨_, rfl⟩
          rw [← hZ] at cs nq
          clear hcz hZ
          go_wp2
          go_roundw
          case rel => exact ⟨r + 1, hrt, by go_num, BI⟩
          case measure => simp [intOf] <;> omega
        · obtain rfl : r = sl.length := by omega
          clear hrt hr b0 b1 cl0 cz0
          replace OO := hid (OO.out.below BI.out)
          replace BL := hid (BL.out.trans (BI.out.mono BL.out.size))
          clear BI VAr
          have B1 := hid (below_alloc1 wr (.cells #[.int .i64 X] 2))
          have RN := hid (rdZ_one wr X 2)
          have LX := hid (show sl.length + [X].length ≤ 4194304 by simp; omega)
          have O2 := hid (OO.out.below B1.out)
          have S2 := hid (show w11.heap.size ≤ (wr.alloc (.cells #[.int .i64 X] 2)).heap.size by have := BL.out.size; simp; omega)
          have B2 := hid (BL.out.trans (B1.out.mono BL.out.size))
          go_wp2_with (at_builtin; refine list_appZ rfl _ _ rfl _ _ sl [X] w11.heap.size rfl rfl O2.out RN.out LX.out S2.out ?_; intro v3 w3 hO hG; rw [← ES.out] at hO; obtain ⟨pq, cq, rfl, -, -, -⟩ := hO.rd.parts; have B3 := hid (B2.out.grown hG S2.out (O2.out.row (Nat.le_refl _))); have O3 := hid hO)
          clear hO hG O2 S2 B2 RN
          go_roundw
          case rel => exact ⟨k + 1, _, _, hlt, by go_num, rfl, rfl, hid (by rw [← HTK.out]; exact O3.out), B3⟩
          case measure => simp [intOf] <;> omega
    · obtain rfl : k = la.length := by omega
      clear hlt hk
      have hB := BL.out
      clear BL b0 b1 VAr
      replace HLR := hid (HLR.out.below hB)
      replace VW := hid (var_below hB VW.out)
      replace VT := hid (var_below hB VT.out)
      replace VA := hid (var_below hB VA.out)
      replace BB := hid (BB.out.trans (hB.mono BB.out.size))
      clear hB
      by_cases c0 : c = 0
      case neg =>
        have nz : (c != 0) = true := by rw [bne_iff_ne]; exact c0
        obtain ⟨⟨t0, t1, t2⟩, -⟩ := var3_facts VT.out
        obtain ⟨px, cx, hpx, -, -, -⟩ := OO.out.rd.parts
        clear hpx
        skip
        obtain ⟨b0, b1, -, -⟩ := var2_facts VA.out
        go_wp2
        go_ret
        exact ⟨rfl, BB.out⟩
      obtain ⟨wo, hm, er, hn, fz, nf, nt, n6⟩ := tc_law TF.out c0
      have RG := wo.rng
      have WL := hid (wok_wf wo)
      have L16 := hid wo.len
      have FZ := hid fz
      have NF := hid nf
      have NT := hid nt
      have N6 := hid n6
      have HW := hid (wrap16w RG)
      clear wo hm fz nf nt n6 TF
      subst c0
      by_cases hgt : top < n
      · rw [tkT, if_pos hgt] at er
        subst er
        replace RG := hid RG
        have hw := HW.out
        obtain ⟨a0, a1, -, -⟩ := var2_facts VW.out
        obtain ⟨⟨t0, t1, t2⟩, -⟩ := var3_facts VT.out
        obtain ⟨b0, b1, -, -⟩ := var2_facts VA.out
        go_wp2_with fail
        clear b0 b1
        clear a0 a1 t0 t1 t2
        refine (iwf rk _ lr _ HLR.out WL.out (Nat.le_trans L16.out (by omega))).mono ?_
        rintro e z1 ⟨rfl, hB⟩
        rw [FZ.out]
        replace HLR := hid (HLR.out.below hB)
        replace VW := hid (var_below hB VW.out)
        replace VT := hid (var_below hB VT.out)
        replace VA := hid (var_below hB VA.out)
        replace BB := hid (BB.out.trans (hB.mono BB.out.size))
        clear hB
        obtain ⟨a0, a1, -, -⟩ := var2_facts VW.out
        obtain ⟨⟨t0, t1, t2⟩, -⟩ := var3_facts VT.out
        go_wp2_with fail
        clear a0 a1 t0 t1 t2
        obtain ⟨c2, rk2, lr2, hF2⟩ := tc_some rk lr rk
        have e6 := N6.out _ _ _ hF2
        refine (itc rk rk _ lr c2 rk2 lr2 _ HLR.out WL.out (Nat.le_trans L16.out (by omega)) hF2).mono ?_
        rintro e z2 ⟨u2, rfl, hO, hB⟩
        subst e6
        obtain ⟨p2, k2, rfl, -, -, -⟩ := hO.rd.parts
        replace HLR := hid (HLR.out.below hB)
        replace VW := hid (var_below hB VW.out)
        replace VT := hid (var_below hB VT.out)
        replace VA := hid (var_below hB VA.out)
        replace BB := hid (BB.out.trans (hB.mono BB.out.size))
        clear hB
        have hf := fldXR 6 rk2 p2 lr2.length k2
        clear hO hF2
        obtain ⟨a0, a1, -, -⟩ := var2_facts VW.out
        obtain ⟨⟨t0, t1, t2⟩, -⟩ := var3_facts VT.out
        go_wp2_with fail
        clear a0 a1 t0 t1 t2
        clear hf
        refine (inews rk (rk - 16) _ lr _ HLR.out WL.out (Nat.le_trans L16.out (by omega))).mono ?_
        rintro e z3 ⟨rfl, hB⟩
        rw [NF.out]
        replace HLR := hid (HLR.out.below hB)
        replace VW := hid (var_below hB VW.out)
        replace VT := hid (var_below hB VT.out)
        replace VA := hid (var_below hB VA.out)
        replace BB := hid (BB.out.trans (hB.mono BB.out.size))
        clear hB
        obtain ⟨a0, a1, -, -⟩ := var2_facts VW.out
        obtain ⟨⟨t0, t1, t2⟩, -⟩ := var3_facts VT.out
        go_wp2_with fail
        clear a0 a1 t0 t1 t2
        refine (inw _).mono ?_
        rintro e z4 ⟨rfl, hB⟩
        replace HLR := hid (HLR.out.below hB)
        replace VW := hid (var_below hB VW.out)
        replace VT := hid (var_below hB VT.out)
        replace VA := hid (var_below hB VA.out)
        replace BB := hid (BB.out.trans (hB.mono BB.out.size))
        clear hB
        obtain ⟨a0, a1, -, -⟩ := var2_facts VW.out
        obtain ⟨⟨t0, t1, t2⟩, -⟩ := var3_facts VT.out
        go_wp2_with fail
        clear a0 a1 t0 t1 t2
        refine (iwf (-1) _ [] _ (RdZ.nil _) (fun x hx => by simp at hx) (by simp)).mono ?_
        rintro e z5 ⟨rfl, hB⟩
        rw [wn_zero]
        replace HLR := hid (HLR.out.below hB)
        replace VW := hid (var_below hB VW.out)
        replace VT := hid (var_below hB VT.out)
        replace VA := hid (var_below hB VA.out)
        replace BB := hid (BB.out.trans (hB.mono BB.out.size))
        clear hB
        obtain ⟨a0, a1, -, -⟩ := var2_facts VW.out
        obtain ⟨⟨t0, t1, t2⟩, -⟩ := var3_facts VT.out
        go_wp2_with fail
        clear a0 a1 t0 t1 t2
        refine (inw _).mono ?_
        rintro e z6 ⟨rfl, hB⟩
        replace HLR := hid (HLR.out.below hB)
        replace VW := hid (var_below hB VW.out)
        replace VT := hid (var_below hB VT.out)
        replace VA := hid (var_below hB VA.out)
        replace BB := hid (BB.out.trans (hB.mono BB.out.size))
        clear hB
        have hf := fldXW
        obtain ⟨a0, a1, -, -⟩ := var2_facts VW.out
        obtain ⟨⟨t0, t1, t2⟩, -⟩ := var3_facts VT.out
        go_wp2_with fail
        clear a0 a1 t0 t1 t2
        refine (inw _).mono ?_
        rintro e z7 ⟨rfl, hB⟩
        replace HLR := hid (HLR.out.below hB)
        replace VW := hid (var_below hB VW.out)
        replace VT := hid (var_below hB VT.out)
        replace VA := hid (var_below hB VA.out)
        replace BB := hid (BB.out.trans (hB.mono BB.out.size))
        clear hB
        obtain ⟨a0, a1, -, -⟩ := var2_facts VW.out
        obtain ⟨⟨t0, t1, t2⟩, -⟩ := var3_facts VT.out
        go_wp2_with fail
        clear a0 a1 t0 t1 t2
        refine (inews (-1) rk _ [] _ (RdZ.nil _) (fun x hx => by simp at hx) (by simp)).mono ?_
        rintro e z8 ⟨rfl, hB⟩
        rw [NT.out]
        replace HLR := hid (HLR.out.below hB)
        replace VW := hid (var_below hB VW.out)
        replace VT := hid (var_below hB VT.out)
        replace VA := hid (var_below hB VA.out)
        replace BB := hid (BB.out.trans (hB.mono BB.out.size))
        clear hB
        obtain ⟨a0, a1, -, -⟩ := var2_facts VW.out
        obtain ⟨⟨t0, t1, t2⟩, -⟩ := var3_facts VT.out
        go_wp2
        go_ret
        exact ⟨rfl, BB.out⟩
      · rw [tkT, if_neg hgt] at er
        subst er
        replace RG := hid RG
        have hw := HW.out
        obtain ⟨a0, a1, -, -⟩ := var2_facts VW.out
        obtain ⟨⟨t0, t1, t2⟩, -⟩ := var3_facts VT.out
        obtain ⟨b0, b1, -, -⟩ := var2_facts VA.out
        go_wp2_with fail
        clear b0 b1
        clear a0 a1 t0 t1 t2
        refine (iwf rk _ lr _ HLR.out WL.out (Nat.le_trans L16.out (by omega))).mono ?_
        rintro e z1 ⟨rfl, hB⟩
        rw [FZ.out]
        replace HLR := hid (HLR.out.below hB)
        replace VW := hid (var_below hB VW.out)
        replace VT := hid (var_below hB VT.out)
        replace VA := hid (var_below hB VA.out)
        replace BB := hid (BB.out.trans (hB.mono BB.out.size))
        clear hB
        obtain ⟨a0, a1, -, -⟩ := var2_facts VW.out
        obtain ⟨⟨t0, t1, t2⟩, -⟩ := var3_facts VT.out
        go_wp2_with fail
        clear a0 a1 t0 t1 t2
        obtain ⟨c2, rk2, lr2, hF2⟩ := tc_some rk lr n
        have e6 := N6.out _ _ _ hF2
        refine (itc rk n _ lr c2 rk2 lr2 _ HLR.out WL.out (Nat.le_trans L16.out (by omega)) hF2).mono ?_
        rintro e z2 ⟨u2, rfl, hO, hB⟩
        subst e6
        obtain ⟨p2, k2, rfl, -, -, -⟩ := hO.rd.parts
        replace HLR := hid (HLR.out.below hB)
        replace VW := hid (var_below hB VW.out)
        replace VT := hid (var_below hB VT.out)
        replace VA := hid (var_below hB VA.out)
        replace BB := hid (BB.out.trans (hB.mono BB.out.size))
        clear hB
        have hf := fldXR 6 rk2 p2 lr2.length k2
        clear hO hF2
        obtain ⟨a0, a1, -, -⟩ := var2_facts VW.out
        obtain ⟨⟨t0, t1, t2⟩, -⟩ := var3_facts VT.out
        go_wp2_with fail
        clear a0 a1 t0 t1 t2
        clear hf
        refine (inews rk (rk - 16) _ lr _ HLR.out WL.out (Nat.le_trans L16.out (by omega))).mono ?_
        rintro e z3 ⟨rfl, hB⟩
        rw [NF.out]
        replace HLR := hid (HLR.out.below hB)
        replace VW := hid (var_below hB VW.out)
        replace VT := hid (var_below hB VT.out)
        replace VA := hid (var_below hB VA.out)
        replace BB := hid (BB.out.trans (hB.mono BB.out.size))
        clear hB
        obtain ⟨a0, a1, -, -⟩ := var2_facts VW.out
        obtain ⟨⟨t0, t1, t2⟩, -⟩ := var3_facts VT.out
        go_wp2_with fail
        clear a0 a1 t0 t1 t2
        refine (inw _).mono ?_
        rintro e z4 ⟨rfl, hB⟩
        replace HLR := hid (HLR.out.below hB)
        replace VW := hid (var_below hB VW.out)
        replace VT := hid (var_below hB VT.out)
        replace VA := hid (var_below hB VA.out)
        replace BB := hid (BB.out.trans (hB.mono BB.out.size))
        clear hB
        obtain ⟨a0, a1, -, -⟩ := var2_facts VW.out
        obtain ⟨⟨t0, t1, t2⟩, -⟩ := var3_facts VT.out
        go_wp2_with fail
        clear a0 a1 t0 t1 t2
        refine (iwf (-1) _ [] _ (RdZ.nil _) (fun x hx => by simp at hx) (by simp)).mono ?_
        rintro e z5 ⟨rfl, hB⟩
        rw [wn_zero]
        replace HLR := hid (HLR.out.below hB)
        replace VW := hid (var_below hB VW.out)
        replace VT := hid (var_below hB VT.out)
        replace VA := hid (var_below hB VA.out)
        replace BB := hid (BB.out.trans (hB.mono BB.out.size))
        clear hB
        obtain ⟨a0, a1, -, -⟩ := var2_facts VW.out
        obtain ⟨⟨t0, t1, t2⟩, -⟩ := var3_facts VT.out
        go_wp2_with fail
        clear a0 a1 t0 t1 t2
        refine (inw _).mono ?_
        rintro e z6 ⟨rfl, hB⟩
        replace HLR := hid (HLR.out.below hB)
        replace VW := hid (var_below hB VW.out)
        replace VT := hid (var_below hB VT.out)
        replace VA := hid (var_below hB VA.out)
        replace BB := hid (BB.out.trans (hB.mono BB.out.size))
        clear hB
        have hf := fldXW
        obtain ⟨a0, a1, -, -⟩ := var2_facts VW.out
        obtain ⟨⟨t0, t1, t2⟩, -⟩ := var3_facts VT.out
        go_wp2_with fail
        clear a0 a1 t0 t1 t2
        refine (inw _).mono ?_
        rintro e z7 ⟨rfl, hB⟩
        replace HLR := hid (HLR.out.below hB)
        replace VW := hid (var_below hB VW.out)
        replace VT := hid (var_below hB VT.out)
        replace VA := hid (var_below hB VA.out)
        replace BB := hid (BB.out.trans (hB.mono BB.out.size))
        clear hB
        obtain ⟨a0, a1, -, -⟩ := var2_facts VW.out
        obtain ⟨⟨t0, t1, t2⟩, -⟩ := var3_facts VT.out
        go_wp2_with fail
        clear a0 a1 t0 t1 t2
        refine (inews (-1) n _ [] _ (RdZ.nil _) (fun x hx => by simp at hx) (by simp)).mono ?_
        rintro e z8 ⟨rfl, hB⟩
        rw [NT.out]
        replace HLR := hid (HLR.out.below hB)
        replace VW := hid (var_below hB VW.out)
        replace VT := hid (var_below hB VT.out)
        replace VA := hid (var_below hB VA.out)
        replace BB := hid (BB.out.trans (hB.mono BB.out.size))
        clear hB
        obtain ⟨a0, a1, -, -⟩ := var2_facts VW.out
        obtain ⟨⟨t0, t1, t2⟩, -⟩ := var3_facts VT.out
        go_wp2
        go_ret
        exact ⟨rfl, BB.out⟩
end Go.Proofs.Ytalaolfcdaaaoaa.W
