/-
  The fault of a claim: what the program's ClaimFault answers.
  The fault of a view: what nodesRise, ViewFault and viewsFault of the program answer.
  Where a node stands in a view: what cmp.Compare, slices.BinarySearchFunc and the program's placeOf answer there.
  Where a node stands in a view: what slices.BinarySearchFunc and the program's placeOf answer there.
  What the program's FindClaim answers.
  What RefuteBy, SuspectBy and BuryBy answer: the program: SuspectBy.
  What RefuteBy, SuspectBy and BuryBy answer: the model: RefuteBy.
  What RefuteBy, SuspectBy and BuryBy answer: the program: RefuteBy.
  What RefuteBy, SuspectBy and BuryBy answer: the model: BuryBy.
  Bounds, how many there are: what the program's within and nodeSpan answer.
-/
import Derived.Test.YtalaolfcdaaaoaaClfW
import Derived.Test.YtalaolfcdaaaoaaVwS
import Derived.Test.YtalaolfcdaaaoaaNrsW
import Derived.Test.YtalaolfcdaaaoaaAppZ
import Derived.Test.YtalaolfcdaaaoaaVwFx
import Derived.Test.YtalaolfcdaaaoaaLetV
import Derived.Test.YtalaolfcdaaaoaaLetF
import Derived.Test.YtalaolfcdaaaoaaCrS
import Derived.Test.YtalaolfcdaaaoaaCrT
import Derived.Test.YtalaolfcdaaaoaaCrF
import Derived.Test.YtalaolfcdaaaoaaVwB
import Derived.Test.YtalaolfcdaaaoaaCrB
import Derived.WalkSpells
import Derived.Test.YtalaolfcdaaaoaaInWalks
import Derived.Test.YtalaolfcdaaaoaaArr

namespace Go.Proofs.Ytalaolfcdaaaoaa.W
open Go.ChangeShapes Go.WideShapes Go.ChangeAt Go.RowKit
open Go.Proofs.Ytalaolfcdaaaoaa.M

set_option maxHeartbeats 1000000 in
set_option maxRecDepth 100000 in
theorem iclf (a b c d : Int) (w : World) :
    Calls Try.prog 92 #[.agg #[.int .i64 a, .int .i64 b, .int .i64 c, .int .i64 d]] w fun e w' => e = .returned (.int .i64 (clF a b c d)) ∧ Below w.heap.size w w' := by
  go_enter Try.func92, Try.ntmps92
  have V := hid (heap_alloc_new w (.cells #[.int .i64 a, .int .i64 b, .int .i64 c, .int .i64 d] 38))
  have BB := hid (below_alloc1 w (.cells #[.int .i64 a, .int .i64 b, .int .i64 c, .int .i64 d] 38))
  go_wp2_with fail
  generalize w.alloc (.cells #[.int .i64 a, .int .i64 b, .int .i64 c, .int .i64 d] 38) = w0 at *
  obtain ⟨g, hg⟩ : ∃ g, g = w.heap.size := ⟨_, rfl⟩
  rw [← hg] at V ⊢
  replace hg := hid hg
  refine (clnu _ _ _).mono ?_
  rintro e w1 ⟨v, rfl, hR, hB⟩
  replace V := hid (var_below hB V.out)
  replace BB := hid (BB.out.trans (hB.mono BB.out.size))
  have R := hid hR
  obtain ⟨gn, rfl, -, -⟩ := hR.parts
  clear hB hR
  go_wp2_with fail
  refine (nfit _ _ [a, b, c, d] _ R.out (kp4 V.out)).mono ?_
  rintro e w2 ⟨rfl, hB⟩
  replace BB := hid (BB.out.trans (hB.mono BB.out.size))
  clear hB V R
  have F := hid (cl_fit (a := a) (b := b) (c := c) (d := d) (B := g) (o := 0))
  generalize fitB _ _ = t at *
  cases t
  · have E := hid (cl_no (fun q => by have := F.out.2 q; cases this))
    clear F
    go_wp2
    go_ret
    exact ⟨ret_cl E.out.symm, BB.out⟩
  · have E := hid (show clF a b c d = 0 from by obtain ⟨h1, h2, h3, h4⟩ := F.out.1 rfl; exact cl_yes h1 h2 h3 h4)
    clear F
    go_wp2
    go_ret
    exact ⟨ret_cl E.out.symm, BB.out⟩
end Go.Proofs.Ytalaolfcdaaaoaa.W

namespace Go.Proofs.Ytalaolfcdaaaoaa.W
open Go.ChangeShapes Go.WideShapes Go.ChangeAt Go.RowKit
open Go.Proofs.Ytalaolfcdaaaoaa.M

set_option maxHeartbeats 2000000 in
set_option maxRecDepth 100000 in
theorem ndri (v : Value) (cs : List Clm) (w : World) (h : RdC w v cs) (hl : cs.length ≤ 4) :
    Calls Try.prog 116 #[v] w fun e w' => e = .returned (.bool (risB (nds cs))) ∧ Below w.heap.size w w' := by
  have H := hid h
  obtain ⟨a, cap, rfl, -, -, -⟩ := h.parts
  clear h
  go_enter Try.func116, Try.ntmps116
  go_wp2_with fail
  go_loopw [3, 5, 8] (fun s3 s5 s8 wr => ∃ k : Nat, ∃ u3 u5 : Value, k ≤ cs.length ∧ s8 = .int .i64 k ∧ s3 = u3 ∧ s5 = u5 ∧ Hid (Below w.heap.size w wr) ∧ Hid (OwZ wr w.heap.size u3 ((nds cs).take k))) (fun _ _ i _ => cs.length - (intOf i).toNat)
  case atStart => exact ⟨0, _, _, by omega, rfl, rfl, rfl, hid (Below.refl _ _), hid (by simpa using OwZ.nil w w.heap.size)⟩
  case round =>
    obtain ⟨k, u3, u5, hk, rfl, rfl, rfl, BL, OO⟩ := hrel
    by_cases hlt : k < cs.length
    · obtain ⟨a', cap', e, -, -, hcs⟩ := (H.out.below BL.out).parts
      cases e
      obtain ⟨b, o, rfl, q1⟩ := hcs k hlt
      obtain ⟨c0, c1, c2, c3⟩ := c_cells q1
      have I1 := idx_ci b o cs.length cap k hlt
      have T := hid (show (nds cs).take (k + 1) = (nds cs).take k ++ [cs[k].n] by
        rw [List.take_succ_eq_append_getElem (by rw [nds_len]; exact hlt), nds_at cs k hlt])
      have TL := hid (show ((nds cs).take k).length ≤ 4 by rw [List.length_take, nds_len]; omega)
      obtain ⟨M, hM⟩ : ∃ M, M = cs[k] := ⟨_, rfl⟩
      rw [← hM] at c0 c1 c2 c3 T
      clear q1 hcs hM
      obtain ⟨x, hx⟩ : ∃ x, x = (nds cs).take k := ⟨_, rfl⟩
      rw [← hx] at OO T TL
      clear hx
      obtain ⟨pu, cu, rfl, -, -, -⟩ := OO.out.rd.parts
      have B1 := hid (below_alloc2 wr (.cells #[.int .i64 M.n, .int .i64 M.i, .int .i64 M.s, .int .i64 M.m] 38) (.cells #[.int .i64 M.n] 2))
      have RN := rdZ_one (wr.alloc (.cells #[.int .i64 M.n, .int .i64 M.i, .int .i64 M.s, .int .i64 M.m] 38)) M.n 2
      simp only [World.size_alloc] at RN
      have RN2 := hid RN
      have LA := hid (show x.length + [M.n].length ≤ 4194304 by have := TL.out; simp; omega)
      have O2 := hid (OO.out.below B1.out)
      have S2 := hid (show w.heap.size ≤ ((wr.alloc (.cells #[.int .i64 M.n, .int .i64 M.i, .int .i64 M.s, .int .i64 M.m] 38)).alloc (.cells #[.int .i64 M.n] 2)).heap.size by have := BL.out.size; simp; omega)
      have B2 := hid (BL.out.trans (B1.out.mono BL.out.size))
      clear RN B1 OO
      go_wp2_with (at_builtin; refine list_appZ rfl _ _ rfl _ _ x [M.n] w.heap.size rfl rfl O2.out RN2.out LA.out S2.out ?_; intro v3 w3 hO hG; rw [← T.out] at hO; obtain ⟨pq, cq, rfl, -, -, -⟩ := hO.rd.parts)
      have B3 := hid (B2.out.grown hG S2.out (O2.out.row (Nat.le_refl _)))
      simp only [List.length_take] at hO
      have O3 := hid hO
      clear hO hG c0 c1 c2 c3 I1 O2 S2 B2 RN2
      go_roundw
      case rel => exact ⟨k + 1, _, _, hlt, by go_num, rfl, rfl, B3, O3⟩
      case measure => simp [intOf]; omega
    · have hke : k = cs.length := by omega
      subst hke
      have O3 := hid (show OwZ wr w.heap.size u3 (nds cs) by have := OO.out; rwa [List.take_of_length_le (by rw [nds_len]; exact Nat.le_refl _)] at this)
      obtain ⟨pu, cu, rfl, -, -, -⟩ := O3.out.rd.parts
      clear OO
      go_wp2_with fail
      refine (inrs _ (nds cs) _ O3.out.rd).mono ?_
      rintro e w1 ⟨rfl, hB⟩
      replace BL := hid (BL.out.trans (hB.mono BL.out.size))
      clear hB O3
      obtain ⟨t, ht⟩ : ∃ t, t = risB (nds cs) := ⟨_, rfl⟩
      rw [← ht]
      replace ht := hid ht
      go_wp2
      go_ret
      exact ⟨ret_vb ht.out, BL.out⟩
set_option maxHeartbeats 2000000 in
set_option maxRecDepth 100000 in
theorem ivf (v : Value) (cs : List Clm) (w : World) (h : RdC w v cs) :
    Calls Try.prog 66 #[v] w fun e w' => e = .returned (.int .i64 (vF cs)) ∧ Below w.heap.size w w' := by
  have H := hid h
  obtain ⟨a, cap, rfl, hc, hm, -⟩ := h.parts
  clear h
  have hmx : cs.length ≤ 9223372036854775807 := by unfold maxLen at hm; omega
  clear hc hm
  have V0 := hid (heap_alloc_new w (.cells #[.int .i64 (cs.length : Int), .int .i64 0, .int .i64 4] 100))
  have BB := hid (below_alloc1 w (.cells #[.int .i64 (cs.length : Int), .int .i64 0, .int .i64 4] 100))
  go_enter Try.func66, Try.ntmps66
  go_wp2_with fail
  refine (within1 _ _ _ _ _ V0.out).mono ?_
  rintro e w1 ⟨rfl, hB⟩
  replace BB := hid (BB.out.trans (hB.mono BB.out.size))
  clear V0 hB
  by_cases hl : 4 < cs.length
  · have E := hid (vF_many hl)
    have h0 : inB (cs.length : Int) 0 4 = false := by simp [inB]; omega
    rw [h0]
    go_wp2
    go_ret
    exact ⟨ret_vi E.out.symm, BB.out⟩
  have HL := hid hl
  have h0 : inB (cs.length : Int) 0 4 = true := by simp [inB]; omega
  rw [h0]
  clear h0
  replace H := hid (H.out.below BB.out)
  go_wp2_with fail
  go_loopw [4, 5, 14] (fun s4 s5 i wr => ∃ k : Nat, ∃ u4 u5 : Value, k ≤ cs.length ∧ i = .int .i64 k ∧ s4 = u4 ∧ s5 = u5 ∧ Hid (Below w1.heap.size w1 wr) ∧ Hid (∀ j (hj : j < cs.length), j < k → clC cs[j] = 0)) (fun _ _ i _ => cs.length - (intOf i).toNat)
  case atStart => exact ⟨0, _, _, by omega, rfl, rfl, rfl, hid (Below.refl _ _), hid fun j _ q => by omega⟩
  case round =>
    obtain ⟨k, u4, u5, hk, rfl, rfl, rfl, BL, OK⟩ := hrel
    by_cases hlt : k < cs.length
    · obtain ⟨a', cap', e, -, -, hcs⟩ := (H.out.below BL.out).parts
      cases e
      obtain ⟨b, o, rfl, q1⟩ := hcs k hlt
      obtain ⟨c0, c1, c2, c3⟩ := c_cells q1
      have I1 := idx_ci b o cs.length cap k hlt
      have VR := hid fun q => vF_range hl k hlt q
      obtain ⟨t, ht⟩ : ∃ t, t = clC cs[k] := ⟨_, rfl⟩
      have ht2 := ht
      unfold clC at ht2
      obtain ⟨M, hM⟩ : ∃ M, M = cs[k] := ⟨_, rfl⟩
      rw [← hM] at c0 c1 c2 c3 ht2
      replace ht := hid ht
      clear q1 hcs hM hl
      have B1 := hid (below_alloc1 wr (.cells #[.int .i64 M.n, .int .i64 M.i, .int .i64 M.s, .int .i64 M.m] 38))
      go_wp2_with fail
      refine (iclf _ _ _ _ _).mono ?_
      rintro e w2 ⟨rfl, hB⟩
      replace BL := hid (BL.out.trans ((B1.out.trans (hB.mono B1.out.size)).mono BL.out.size))
      rw [← ht2]
      clear hB c0 c1 c2 c3 ht2 B1
      by_cases h0 : t = 0
      · subst h0
        have OK2 := hid (show ∀ j (hj : j < cs.length), j < k + 1 → clC cs[j] = 0 from fun j hj q => by
          rcases Nat.lt_or_ge j k with q2 | q2
          · exact OK.out j hj q2
          · obtain rfl : j = k := by omega
            exact ht.out.symm)
        go_wp2
        go_roundw
        case rel => exact ⟨k + 1, _, _, hlt, by go_num, rfl, rfl, BL, OK2⟩
        case measure => simp [intOf]; omega
      · have E := hid (VR.out (by rw [← ht.out]; exact h0))
        have h3 : t = 3 := by
          rcases clC_q cs[k] with q | q
          · rw [← ht.out] at q; exact absurd q h0
          · rw [← ht.out] at q; exact q
        subst h3
        go_wp2
        go_ret
        exact ⟨ret_vi E.out.symm, BB.out.trans (BL.out.mono BB.out.size)⟩
    · have AL := hid (show ∀ j (hj : j < cs.length), clC cs[j] = 0 from fun j hj => OK.out j hj (by omega))
      have HD := hid hl
      clear OK hl
      go_wp2_with fail
      refine (ndri _ cs _ (H.out.below BL.out) (by have := HD.out; omega)).mono ?_
      rintro e w2 ⟨rfl, hB⟩
      replace BL := hid (BL.out.trans (hB.mono BL.out.size))
      have E := hid (vF_claims HD.out AL.out)
      clear hB
      obtain ⟨t, ht⟩ : ∃ t, t = risB (nds cs) := ⟨_, rfl⟩
      rw [← ht] at E ⊢
      clear ht
      cases t
      · rw [if_pos rfl] at E
        go_wp2
        go_ret
        exact ⟨ret_vi E.out.symm, BB.out.trans (BL.out.mono BB.out.size)⟩
      · rw [if_neg (by simp)] at E
        go_wp2
        go_ret
        exact ⟨ret_vi E.out.symm, BB.out.trans (BL.out.mono BB.out.size)⟩
end Go.Proofs.Ytalaolfcdaaaoaa.W

namespace Go.Proofs.Ytalaolfcdaaaoaa.W
open Go.ChangeShapes Go.WideShapes Go.ChangeAt Go.RowKit
open Go.Proofs.Ytalaolfcdaaaoaa.M

def cmp3 (a b : Int) : Int := if a < b then -1 else if b < a then 1 else 0
set_option maxRecDepth 100000 in
theorem nanI (a : Int) (w : World) : Calls Try.prog 140 #[.int .i64 a] w fun e w' => e = .returned (.bool false) ∧ w' = w := by
  go_enter Try.func140, Try.ntmps140
  go_wp2
  go_ret
  exact ⟨rfl, rfl⟩
set_option maxRecDepth 100000 in
theorem cmpI (a b : Int) (w : World) : Calls Try.prog 119 #[.int .i64 a, .int .i64 b] w fun e w' => e = .returned (.int .i64 (cmp3 a b)) ∧ w' = w := by
  go_enter Try.func119, Try.ntmps119
  go_wp2_with fail
  refine (nanI a _).mono ?_
  rintro e w1 ⟨rfl, rfl⟩
  go_wp2_with fail
  refine (nanI b _).mono ?_
  rintro e w2 ⟨rfl, rfl⟩
  by_cases h1 : a < b
  · have E := hid (show cmp3 a b = -1 by rw [cmp3, if_pos h1])
    go_wp2
    go_ret
    exact ⟨ret_vi E.out.symm, rfl⟩
  · by_cases h2 : b < a
    · have E := hid (show cmp3 a b = 1 by rw [cmp3, if_neg h1, if_pos h2])
      go_wp2
      go_ret
      exact ⟨ret_vi E.out.symm, rfl⟩
    · have E := hid (show cmp3 a b = 0 by rw [cmp3, if_neg h1, if_neg h2])
      go_wp2
      go_ret
      exact ⟨ret_vi E.out.symm, rfl⟩
set_option maxRecDepth 100000 in
theorem ndof (c : Clm) (w : World) : Calls Try.prog 77 #[.agg #[.int .i64 c.n, .int .i64 c.i, .int .i64 c.s, .int .i64 c.m]] w fun e w' => e = .returned (.int .i64 c.n) ∧ Below w.heap.size w w' := by
  go_enter Try.func77, Try.ntmps77
  go_wp2
  go_ret
  exact ⟨rfl, below_alloc1 w _⟩
set_option maxRecDepth 100000 in
theorem plc (c : Clm) (n : Int) (g : Nat) (w : World) (hg : w.heap[g]? = some (.cells #[.func (.func 77) #[] #[]] 108)) :
    Calls Try.prog 118 #[.agg #[.int .i64 c.n, .int .i64 c.i, .int .i64 c.s, .int .i64 c.m], .int .i64 n, .pointer (some ⟨g, 0, none⟩)] w fun e w' => e = .returned (.int .i64 (cmp3 c.n n)) ∧ Below w.heap.size w w' := by
  have V := hid hg
  clear hg
  go_enter Try.func118, Try.ntmps118
  have BB := hid (below_alloc1 w (.cells #[.int .i64 c.n, .int .i64 c.i, .int .i64 c.s, .int .i64 c.m] 38))
  have f0 : (w.alloc (.cells #[.int .i64 c.n, .int .i64 c.i, .int .i64 c.s, .int .i64 c.m] 38)).cell? ⟨g, 0, none⟩ = some (.func (.func 77) #[] #[]) := by
    rw [cell_of_row _ g 0 _ _ _ (var_below BB.out V.out)]
    rfl
  go_wp2_with fail
  refine (ndof c _).mono ?_
  rintro e w1 ⟨rfl, hB⟩
  replace BB := hid (BB.out.trans (hB.mono BB.out.size))
  clear f0 hB V
  go_wp2_with fail
  refine (cmpI _ _ _).mono ?_
  rintro e w2 ⟨rfl, rfl⟩
  obtain ⟨t, ht⟩ : ∃ t, t = cmp3 c.n n := ⟨_, rfl⟩
  rw [← ht]
  replace ht := hid ht
  go_wp2
  go_ret
  exact ⟨ret_vi ht.out, BB.out⟩
end Go.Proofs.Ytalaolfcdaaaoaa.W

namespace Go.Proofs.Ytalaolfcdaaaoaa.W
open Go.ChangeShapes Go.WideShapes Go.ChangeAt Go.RowKit
open Go.Proofs.Ytalaolfcdaaaoaa.M

theorem lb_fix {cs : List Clm} {n : Int} {k : Nat} (hk : k ≤ cs.length) (h1 : ∀ j (hj : j < cs.length), j < k → cs[j].n < n) (h2 : ∀ j (hj : j < cs.length), k ≤ j → n ≤ cs[j].n) : lb cs n = k := by
  rcases Nat.lt_trichotomy (lb cs n) k with q | q | q
  · have h3 := lb_at (cs := cs) (n := n) (by omega)
    have h4 := h1 (lb cs n) (by omega) q
    omega
  · exact q
  · have h3 := lb_low q
    have h4 := h2 k (Nat.lt_of_lt_of_le q (lb_le cs n)) (Nat.le_refl _)
    omega
theorem ret_ib {k l : Nat} {s t : Bool} (h : k = l) (h2 : s = t) : Ending.returned (.tuple #[.int .i64 (k : Int), .bool s]) = .returned (.tuple #[.int .i64 (l : Int), .bool t]) := by rw [h, h2]
set_option maxHeartbeats 2000000 in
set_option maxRecDepth 100000 in
theorem bsf (v : Value) (cs : List Clm) (n : Int) (g : Nat) (w : World) (h : RdC w v cs) (hg : w.heap[g]? = some (.cells #[.func (.func 77) #[] #[]] 108)) (hl : cs.length ≤ 1048576) (hp : cs.Pairwise (fun a b => a.n < b.n)) :
    Calls Try.prog 117 #[v, .int .i64 n, .func (.func 118) #[] #[.pointer (some ⟨g, 0, none⟩)]] w
      fun e w' => e = .returned (.tuple #[.int .i64 (lb cs n : Int), .bool (hasN cs n)]) ∧ Below w.heap.size w w' := by
  have H := hid h
  have V := hid hg
  have HP := hid hp
  obtain ⟨a, cap, rfl, -, -, -⟩ := h.parts
  clear h hg hp
  go_enter Try.func117, Try.ntmps117
  go_wp2_with fail
  go_loopw [9, 10, 11] (fun s9 s10 s11 wr => ∃ lo hi : Nat, ∃ u : Value, s9 = .int .i64 lo ∧ s10 = .int .i64 hi ∧ s11 = u ∧ lo ≤ hi ∧ hi ≤ cs.length ∧ Hid (Below w.heap.size w wr) ∧ Hid (∀ j (hj : j < cs.length), j < lo → cs[j].n < n) ∧ Hid (∀ j (hj : j < cs.length), hi ≤ j → n ≤ cs[j].n)) (fun a b _ _ => (intOf b).toNat - (intOf a).toNat)
  case atStart => exact ⟨0, cs.length, _, rfl, rfl, rfl, by omega, by omega, hid (Below.refl _ _), hid fun j _ q => by omega, hid fun j hj q => by omega⟩
  case round =>
    obtain ⟨lo, hi, u, rfl, rfl, rfl, hlh, hhl, BL, L1, L2⟩ := hrel
    by_cases hlt : lo < hi
    · obtain ⟨k, hk⟩ : ∃ k, k = (lo + hi) / 2 := ⟨_, rfl⟩
      have hk0 : lo ≤ k := by omega
      have hk1 : k < hi := by omega
      have hkl : k < cs.length := by omega
      have ek : ((lo : Int) + (hi : Int)) / 2 = (k : Int) := by omega
      have HK := hid hk
      clear hk
      obtain ⟨a', cap', e, -, -, hcs⟩ := (H.out.below BL.out).parts
      cases e
      obtain ⟨b, o, rfl, q1⟩ := hcs k hkl
      obtain ⟨c0, c1, c2, c3⟩ := c_cells q1
      have I1 := idx_ci b o cs.length cap k hkl
      obtain ⟨M, hM⟩ : ∃ M, M = cs[k] := ⟨_, rfl⟩
      rw [← hM] at c0 c1 c2 c3
      have HM := hid hM
      clear q1 hcs hM
      go_wp2_with (simp only [ek])
      refine (plc M n g _ (var_below BL.out V.out)).mono ?_
      rintro e w1 ⟨rfl, hB⟩
      replace BL := hid (BL.out.trans (hB.mono BL.out.size))
      clear hB c0 c1 c2 c3
      by_cases hd : M.n < n
      · rw [show cmp3 M.n n = -1 by rw [cmp3, if_pos hd]]
        have N1 := hid (show ∀ j (hj : j < cs.length), j < k + 1 → cs[j].n < n from fun j hj q => by
          rcases Nat.lt_or_ge j k with q2 | q2
          · have := pair_at HP.out q2 hkl
            rw [HM.out] at hd
            omega
          · obtain rfl : j = k := by omega
            rw [HM.out] at hd
            exact hd)
        go_wp2
        go_roundw
        case rel => exact ⟨k + 1, hi, _, by go_num, rfl, rfl, by omega, hhl, BL, N1, L2⟩
        case measure => simp [intOf]; omega
      · obtain ⟨t, ht⟩ : ∃ t, t = cmp3 M.n n := ⟨_, rfl⟩
        have ht0 : ¬ t < 0 := by
          rw [ht, cmp3, if_neg hd]
          split <;> omega
        rw [← ht]
        clear ht
        have N2 := hid (show ∀ j (hj : j < cs.length), k ≤ j → n ≤ cs[j].n from fun j hj q => by
          rw [HM.out] at hd
          rcases Nat.lt_or_ge k j with q2 | q2
          · have := pair_at HP.out q2 hj
            omega
          · obtain rfl : j = k := by omega
            omega)
        go_wp2
        go_roundw
        case rel => exact ⟨lo, k, _, rfl, rfl, rfl, by omega, by omega, BL, L1, N2⟩
        case measure => simp [intOf]; omega
    · obtain rfl : hi = lo := by omega
      have E1 := lb_fix hhl L1.out L2.out
      by_cases hn : hi < cs.length
      · obtain ⟨a', cap', e, -, -, hcs⟩ := (H.out.below BL.out).parts
        cases e
        obtain ⟨b, o, rfl, q1⟩ := hcs hi hn
        obtain ⟨c0, c1, c2, c3⟩ := c_cells q1
        have I1 := idx_ci b o cs.length cap hi hn
        obtain ⟨M, hM⟩ : ∃ M, M = cs[hi] := ⟨_, rfl⟩
        rw [← hM] at c0 c1 c2 c3
        have HM := hid hM
        have E2 := hid E1
        clear q1 hcs hM E1
        go_wp2_with fail
        refine (plc M n g _ (var_below BL.out V.out)).mono ?_
        rintro e w1 ⟨rfl, hB⟩
        replace BL := hid (BL.out.trans (hB.mono BL.out.size))
        clear hB c0 c1 c2 c3
        by_cases hd : M.n = n
        · rw [show cmp3 M.n n = 0 by rw [cmp3, if_neg (by omega), if_neg (by omega)]]
          have E3 := hid (show hasN cs n = true from hasN_mk (by rw [E2.out]; exact hn) (by simp only [E2.out]; rw [← HM.out]; exact hd))
          go_wp2
          go_ret2
          exact ⟨ret_ib E2.out.symm E3.out.symm, BL.out⟩
        · obtain ⟨t, ht⟩ : ∃ t, t = cmp3 M.n n := ⟨_, rfl⟩
          have ht0 : (t == 0) = false := by
            rw [beq_eq_false_iff_ne, ht, cmp3]
            split
            · omega
            · split <;> omega
          rw [← ht]
          clear ht
          have E3 := hid (show hasN cs n = false by
            cases e : hasN cs n with
            | false => rfl
            | true =>
              obtain ⟨q1, q2⟩ := hasN_yes e
              simp only [E2.out] at q2
              rw [← HM.out] at q2
              exact absurd q2 hd)
          go_wp2
          go_ret2
          exact ⟨ret_ib E2.out.symm E3.out.symm, BL.out⟩
      · have E2 := hid E1
        have E3 := hid (show hasN cs n = false by
          cases e : hasN cs n with
          | false => rfl
          | true =>
            obtain ⟨q1, q2⟩ := hasN_yes e
            omega)
        clear E1
        go_wp2
        go_ret2
        exact ⟨ret_ib E2.out.symm E3.out.symm, BL.out⟩
set_option maxHeartbeats 1000000 in
set_option maxRecDepth 100000 in
theorem plo (v : Value) (cs : List Clm) (n : Int) (w : World) (h : RdC w v cs) (hl : cs.length ≤ 1048576) (hp : cs.Pairwise (fun a b => a.n < b.n)) :
    Calls Try.prog 76 #[v, .int .i64 n, .func (.func 77) #[] #[]] w
      fun e w' => e = .returned (.tuple #[.int .i64 (lb cs n : Int), .bool (hasN cs n)]) ∧ Below w.heap.size w w' := by
  have H := hid h
  have HP := hid hp
  obtain ⟨a, cap, rfl, -, -, -⟩ := h.parts
  clear h hp
  have V := hid (heap_alloc_new w (.cells #[.func (.func 77) #[] #[]] 108))
  have BB := hid (below_alloc1 w (.cells #[.func (.func 77) #[] #[]] 108))
  go_enter Try.func76, Try.ntmps76
  go_wp2_with fail
  refine (bsf _ cs n _ _ (H.out.below BB.out) V.out hl HP.out).mono ?_
  rintro e w1 ⟨rfl, hB⟩
  replace BB := hid (BB.out.trans (hB.mono BB.out.size))
  obtain ⟨k, hk⟩ : ∃ k, k = lb cs n := ⟨_, rfl⟩
  obtain ⟨t, ht⟩ : ∃ t, t = hasN cs n := ⟨_, rfl⟩
  rw [← hk, ← ht]
  replace hk := hid hk
  replace ht := hid ht
  clear hB V
  go_wp2
  go_ret2
  exact ⟨ret_ib hk.out ht.out, BB.out⟩
end Go.Proofs.Ytalaolfcdaaaoaa.W

namespace Go.Proofs.Ytalaolfcdaaaoaa.W
open Go.ChangeShapes Go.WideShapes Go.ChangeAt Go.RowKit
open Go.Proofs.Ytalaolfcdaaaoaa.M

set_option maxHeartbeats 1000000 in
set_option maxRecDepth 100000 in
theorem ifc (v : Value) (cs : List Clm) (n : Int) (w : World) (h : RdC w v cs) :
    Calls Try.prog 17 #[v, .int .i64 n] w fun e w' => ∃ u, e = .returned (.agg #[.int .i64 (fcC cs n), u, .bool false]) ∧ OC w' w.heap.size w'.heap.size u (fcL cs n) ∧ Below w.heap.size w w' := by
  have H := hid h
  obtain ⟨a, cap, rfl, hc, hm, -⟩ := h.parts
  clear h hc hm
  go_enter Try.func17, Try.ntmps17
  have V := hid (heap_alloc_new w (.cells #[.int .i64 0, .slice none 0 0, .bool false] 40))
  have BB := hid (below_alloc1 w (.cells #[.int .i64 0, .slice none 0 0, .bool false] 40))
  go_wp2_with fail
  generalize w.alloc (.cells #[.int .i64 0, .slice none 0 0, .bool false] 40) = w0 at *
  replace H := hid (H.out.below BB.out)
  have LT := hid (var_lt V.out)
  obtain ⟨g, hg⟩ : ∃ g, g = w.heap.size := ⟨_, rfl⟩
  rw [← hg] at V LT ⊢
  have GL := hid (show w.heap.size ≤ g by omega)
  clear hg
  refine (ivf _ cs _ H.out).mono ?_
  rintro e w1 ⟨rfl, hB⟩
  replace V := hid (var_below hB V.out)
  replace H := hid (H.out.below hB)
  replace BB := hid (BB.out.trans (hB.mono BB.out.size))
  replace LT := hid (Nat.lt_of_lt_of_le LT.out hB.size)
  clear hB
  obtain ⟨t, ht⟩ : ∃ t, t = vF cs := ⟨_, rfl⟩
  rw [← ht]
  by_cases h0 : t = 0
  case neg =>
    have ne : (t != 0) = true := by rw [bne_iff_ne]; exact h0
    have E := hid (show fcC cs n = t by rw [fcC, if_pos (by rw [← ht]; exact h0), ht])
    have EL := hid (show fcL cs n = [] by rw [fcL, if_neg (fun q => h0 (by rw [ht]; exact q.1))])
    obtain ⟨⟨z0, z1, z2⟩, z3, z4, z5⟩ := var3_facts V.out
    have HS := hid (var3_set (x' := .int .i64 t) (y' := .slice none 0 0) (z' := .bool false) V.out)
    have HW := hid (below_st3 (.int .i64 t) (.slice none 0 0) (.bool false) BB.out GL.out)
    clear ht h0
    go_wp2
    exact bodyPost_ret (v := .agg #[.int .i64 t, .slice none 0 0, .bool false]) (results_cell_row rfl _ _ g 40 _ _ _ rfl HS.out Try.underlying40 rfl (by kernel_rfl)) rfl ⟨_, by rw [E.out], by rw [EL.out]; exact OC.nil _ _ _, HW.out⟩
  subst h0
  have VO := hid (vF_ok ht.symm)
  go_wp2_with fail
  refine (plo _ cs n _ H.out (by have := VO.out.1; omega) VO.out.2.2).mono ?_
  rintro e w2 ⟨rfl, hB⟩
  replace V := hid (var_below hB V.out)
  replace H := hid (H.out.below hB)
  replace BB := hid (BB.out.trans (hB.mono BB.out.size))
  replace LT := hid (Nat.lt_of_lt_of_le LT.out hB.size)
  clear hB
  cases hh : hasN cs n
  · have E := hid (show fcC cs n = 4 by rw [fcC, if_neg (by rw [← ht]; simp), hh]; rfl)
    have EL := hid (show fcL cs n = [] by rw [fcL, if_neg (fun q => by rw [hh] at q; cases q.2)])
    generalize lb cs n = k at *
    obtain ⟨⟨z0, z1, z2⟩, z3, z4, z5⟩ := var3_facts V.out
    have HS := hid (var3_set (x' := .int .i64 4) (y' := .slice none 0 0) (z' := .bool false) V.out)
    have HW := hid (below_st3 (.int .i64 4) (.slice none 0 0) (.bool false) BB.out GL.out)
    clear ht hh
    go_wp2
    exact bodyPost_ret (v := .agg #[.int .i64 4, .slice none 0 0, .bool false]) (results_cell_row rfl _ _ g 40 _ _ _ rfl HS.out Try.underlying40 rfl (by kernel_rfl)) rfl ⟨_, by rw [E.out], by rw [EL.out]; exact OC.nil _ _ _, HW.out⟩
  · obtain ⟨hk, hkn⟩ := hasN_yes hh
    have E := hid (show fcC cs n = 0 by rw [fcC, if_neg (by rw [← ht]; simp), hh]; rfl)
    have EL := hid (show fcL cs n = [cs[lb cs n]'hk] by rw [fcL, if_pos ⟨ht.symm, hh⟩]; simp [List.getD_eq_getElem?_getD, hk])
    generalize lb cs n = k at *
    obtain ⟨a', cap', e, -, -, hcs⟩ := H.out.parts
    cases e
    obtain ⟨b, o, rfl, q1⟩ := hcs k hk
    obtain ⟨c0, c1, c2, c3⟩ := c_cells q1
    have I1 := idx_ci b o cs.length cap k hk
    obtain ⟨M, hM⟩ : ∃ M, M = cs[k] := ⟨_, rfl⟩
    rw [← hM] at c0 c1 c2 c3 EL
    have VN := heap_alloc_new w2 (.cells #[.int .i64 M.n, .int .i64 M.i, .int .i64 M.s, .int .i64 M.m] 38)
    have hA := below_alloc1 w2 (.cells #[.int .i64 M.n, .int .i64 M.i, .int .i64 M.s, .int .i64 M.m] 38)
    have OO := owC_one VN LT.out
    replace V := hid (var_below hA V.out)
    replace BB := hid (BB.out.trans (hA.mono BB.out.size))
    obtain ⟨⟨z0, z1, z2⟩, z3, z4, z5⟩ := var3_facts V.out
    have HS := hid (var3_set (x' := .int .i64 0) (y' := .slice (some ⟨w2.heap.size, 0, none⟩) 1 1) (z' := .bool false) V.out)
    have HW := hid (below_st3 (.int .i64 0) (.slice (some ⟨w2.heap.size, 0, none⟩) 1 1) (.bool false) BB.out GL.out)
    have HO := hid (OO.st3 (Nat.lt_succ_self g) (.int .i64 0) (.slice (some ⟨w2.heap.size, 0, none⟩) 1 1) (.bool false))
    clear hM q1 hcs ht hh hkn OO VN hA
    go_wp2
    exact bodyPost_ret (v := .agg #[.int .i64 0, .slice (some ⟨w2.heap.size, 0, none⟩) 1 1, .bool false]) (results_cell_row rfl _ _ g 40 _ _ _ rfl HS.out Try.underlying40 rfl (by kernel_rfl)) rfl ⟨_, by rw [E.out], by rw [EL.out]; exact OC.of (HO.out.mono (Nat.le_succ_of_le GL.out)), HW.out⟩
end Go.Proofs.Ytalaolfcdaaaoaa.W

namespace Go.Proofs.Ytalaolfcdaaaoaa.W
open Go.ChangeShapes Go.WideShapes Go.ChangeAt Go.RowKit
open Go.Proofs.Ytalaolfcdaaaoaa.M

set_option maxHeartbeats 2000000 in
set_option maxRecDepth 100000 in
theorem isus (v : Value) (cs : List Clm) (n : Int) (w : World) (h : RdC w v cs) :
    Calls Try.prog 32 #[v, .int .i64 n] w fun e w' => e = .returned (.agg #[.int .i64 (suA cs n).1, .int .i64 (suA cs n).2.1.n, .int .i64 (suA cs n).2.1.i, .int .i64 (suA cs n).2.1.s, .int .i64 (suA cs n).2.1.m, .bool (suA cs n).2.2]) ∧ Below w.heap.size w w' := by
  obtain ⟨R, hR⟩ : ∃ R, R = suA cs n := ⟨_, rfl⟩
  rw [← hR]
  replace hR := hid hR
  have H := hid (h.below (below_alloc1 w (.cells #[.int .i64 0, .int .i64 0, .int .i64 0, .int .i64 0, .int .i64 0, .bool false] 57)))
  obtain ⟨a, cap, rfl, -, -, -⟩ := h.parts
  clear h
  have V := hid (heap_alloc_new w (.cells #[.int .i64 0, .int .i64 0, .int .i64 0, .int .i64 0, .int .i64 0, .bool false] 57))
  have BB := hid (below_alloc1 w (.cells #[.int .i64 0, .int .i64 0, .int .i64 0, .int .i64 0, .int .i64 0, .bool false] 57))
  go_enter Try.func32, Try.ntmps32
  go_wp2_with fail
  generalize w.alloc (.cells #[.int .i64 0, .int .i64 0, .int .i64 0, .int .i64 0, .int .i64 0, .bool false] 57) = w0 at *
  obtain ⟨g, hg⟩ : ∃ g, g = w.heap.size := ⟨_, rfl⟩
  have LG := hid (show w.heap.size ≤ g by omega)
  rw [← hg] at V ⊢
  replace hg := hid hg
  refine (ifc _ cs n _ H.out).mono ?_
  rintro e w1 ⟨u, rfl, hO, hB⟩
  have RU := hid hO.rd
  clear hO
  replace V := hid (var_below hB V.out)
  replace BB := hid (BB.out.trans (hB.mono BB.out.size))
  clear hB H
  obtain ⟨pu, ku, rfl, -, -, -⟩ := RU.out.parts
  by_cases hf : vF cs = 0
  case neg =>
    have E := hid (su_fault (n := n) hf)
    obtain ⟨t, ht⟩ : ∃ t, t = fcC cs n := ⟨_, rfl⟩
    have nt : (t != 0) = true := by rw [ht, show fcC cs n = vF cs by rw [fcC, if_pos hf]]; simpa using hf
    rw [← ht]
    have E2 := hid (show suA cs n = (t, zC, false) by rw [E.out, ht, show fcC cs n = vF cs by rw [fcC, if_pos hf]])
    obtain ⟨m, hm⟩ : ∃ m, m = (fcL cs n).length := ⟨_, rfl⟩
    rw [← hm]
    replace hm := hid hm
    replace ht := hid ht
    clear RU E
    replace V := hid (var_alloc (.cells #[.int .i64 t, .slice pu m ku, .bool false] 40) V.out)
    replace BB := hid (BB.out.trans ((below_alloc1 w1 (.cells #[.int .i64 t, .slice pu m ku, .bool false] 40)).mono BB.out.size))
    have V2 := hid (cr_row (new := #[.int .i64 t, .int .i64 0, .int .i64 0, .int .i64 0, .int .i64 0, .bool false]) V.out)
    have B2 := hid (cr_below (L := #[.int .i64 t, .int .i64 0, .int .i64 0, .int .i64 0, .int .i64 0, .bool false]) BB.out LG.out)
    go_wp2_with (first | refine buildC rfl 57 _ rfl _ (cr_e0 (c := t) (by simp [Act.eval])) ?_ | refine wpList_store_row rfl 57 _ _ rfl g #[.int .i64 t, .int .i64 0, .int .i64 0, .int .i64 0, .int .i64 0, .bool false] rfl rfl 57 _ V.out (cr_info _ rfl) rfl (cr_one _ _ _ _ _ _) ?_)
    exact bodyPost_ret (v := .agg #[.int .i64 t, .int .i64 0, .int .i64 0, .int .i64 0, .int .i64 0, .bool false]) (results_cell_row rfl _ _ g 57 _ _ _ rfl V2.out Try.underlying57 rfl (by kernel_rfl)) rfl ⟨by have e := hR.out.trans E2.out; rw [e]; first | done | rfl, B2.out⟩
  by_cases hh : hasN cs n = true
  case neg =>
    have E := hid (su_none (n := n) hf (by simpa using hh))
    obtain ⟨t, ht⟩ : ∃ t, t = fcC cs n := ⟨_, rfl⟩
    have nt : (t != 0) = true := by rw [ht, show fcC cs n = 4 by rw [fcC, if_neg (by simp [hf])]; simp [hh]]; rfl
    rw [← ht]
    have E2 := hid (show suA cs n = (t, zC, false) by rw [E.out, ht, show fcC cs n = 4 by rw [fcC, if_neg (by simp [hf])]; simp [hh]])
    obtain ⟨m, hm⟩ : ∃ m, m = (fcL cs n).length := ⟨_, rfl⟩
    rw [← hm]
    replace hm := hid hm
    replace ht := hid ht
    clear RU E
    replace V := hid (var_alloc (.cells #[.int .i64 t, .slice pu m ku, .bool false] 40) V.out)
    replace BB := hid (BB.out.trans ((below_alloc1 w1 (.cells #[.int .i64 t, .slice pu m ku, .bool false] 40)).mono BB.out.size))
    have V2 := hid (cr_row (new := #[.int .i64 t, .int .i64 0, .int .i64 0, .int .i64 0, .int .i64 0, .bool false]) V.out)
    have B2 := hid (cr_below (L := #[.int .i64 t, .int .i64 0, .int .i64 0, .int .i64 0, .int .i64 0, .bool false]) BB.out LG.out)
    go_wp2_with (first | refine buildC rfl 57 _ rfl _ (cr_e0 (c := t) (by simp [Act.eval])) ?_ | refine wpList_store_row rfl 57 _ _ rfl g #[.int .i64 t, .int .i64 0, .int .i64 0, .int .i64 0, .int .i64 0, .bool false] rfl rfl 57 _ V.out (cr_info _ rfl) rfl (cr_one _ _ _ _ _ _) ?_)
    exact bodyPost_ret (v := .agg #[.int .i64 t, .int .i64 0, .int .i64 0, .int .i64 0, .int .i64 0, .bool false]) (results_cell_row rfl _ _ g 57 _ _ _ rfl V2.out Try.underlying57 rfl (by kernel_rfl)) rfl ⟨by have e := hR.out.trans E2.out; rw [e]; first | done | rfl, B2.out⟩
  obtain ⟨hk, -⟩ := hasN_yes hh
  obtain ⟨X, hX⟩ : ∃ X, X = cs.getD (lb cs n) zC := ⟨_, rfl⟩
  have EM := hid fun q => su_made hf hh hX q
  have ES := hid fun q => su_same hf hh hX q
  have EC : fcC cs n = 0 := by rw [fcC, if_neg (by simp [hf]), if_pos hh]
  have EL : fcL cs n = [X] := by rw [fcL, if_pos ⟨hf, hh⟩, hX]
  rw [EC]
  rw [EL] at RU ⊢
  replace hf := hid hf
  replace hh := hid hh
  replace hX := hid hX
  clear EC EL
  obtain ⟨a', cap', e, -, -, hcs⟩ := RU.out.parts
  cases e
  obtain ⟨b, o, rfl, q1⟩ := hcs 0 (by simp)
  simp only [List.getElem_cons_zero, Nat.zero_mul, Nat.add_zero] at q1
  obtain ⟨c0, c1, c2, c3⟩ := c_cells q1
  clear q1 hcs RU
  have I1 := idx_ci b o 1 ku 0 (by omega)
  simp only [Nat.zero_mul, Nat.add_zero] at I1
  by_cases h0 : X.s = 0
  · have E := hid (EM.out h0)
    have n0 : (X.s == 0) = true := by simp [h0]
    replace h0 := hid h0
    clear EM ES
    have hA := below_alloc2 w1 (.cells #[.int .i64 0, .slice (some ⟨b, o, none⟩) 1 ku, .bool false] 40) (.cells #[.int .i64 X.n, .int .i64 X.i, .int .i64 X.s, .int .i64 X.m] 38)
    replace V := hid (var_below hA V.out)
    replace BB := hid (BB.out.trans (hA.mono BB.out.size))
    clear hA
    have k0 := cell_alloc c0 (.cells #[.int .i64 0, .slice (some ⟨b, o, none⟩) 1 ku, .bool false] 40)
    have k1 := cell_alloc c1 (.cells #[.int .i64 0, .slice (some ⟨b, o, none⟩) 1 ku, .bool false] 40)
    have k2 := cell_alloc c2 (.cells #[.int .i64 0, .slice (some ⟨b, o, none⟩) 1 ku, .bool false] 40)
    have k3 := cell_alloc c3 (.cells #[.int .i64 0, .slice (some ⟨b, o, none⟩) 1 ku, .bool false] 40)
    go_wp2_with fail
    clear c0 c1 c2 c3 k0 k1 k2 k3 I1
    refine (ttt 1 X true _).mono ?_
    rintro e w2 ⟨rfl, hB⟩
    replace V := hid (var_below hB V.out)
    replace BB := hid (BB.out.trans (hB.mono BB.out.size))
    clear hB n0
    rw [if_pos rfl]
    have V2 := hid (cr_row (new := #[.int .i64 0, .int .i64 X.n, .int .i64 X.i, .int .i64 1, .int .i64 X.m, .bool true]) V.out)
    have B2 := hid (cr_below (L := #[.int .i64 0, .int .i64 X.n, .int .i64 X.i, .int .i64 1, .int .i64 X.m, .bool true]) BB.out LG.out)
    go_wp2_with (first | fail | refine wpList_store_row rfl 57 _ _ rfl g #[.int .i64 0, .int .i64 X.n, .int .i64 X.i, .int .i64 1, .int .i64 X.m, .bool true] rfl rfl 57 _ V.out (cr_info _ rfl) rfl (cr_one _ _ _ _ _ _) ?_)
    exact bodyPost_ret (v := .agg #[.int .i64 0, .int .i64 X.n, .int .i64 X.i, .int .i64 1, .int .i64 X.m, .bool true]) (results_cell_row rfl _ _ g 57 _ _ _ rfl V2.out Try.underlying57 rfl (by kernel_rfl)) rfl ⟨by have e := hR.out.trans E.out; rw [e]; first | done | rfl, B2.out⟩
  · have E := hid (ES.out h0)
    have n0 : (X.s == 0) = false := by simp [h0]
    replace h0 := hid h0
    clear EM ES
    have hA := below_alloc2 w1 (.cells #[.int .i64 0, .slice (some ⟨b, o, none⟩) 1 ku, .bool false] 40) (.cells #[.int .i64 X.n, .int .i64 X.i, .int .i64 X.s, .int .i64 X.m] 38)
    replace V := hid (var_below hA V.out)
    replace BB := hid (BB.out.trans (hA.mono BB.out.size))
    clear hA
    have k0 := cell_alloc c0 (.cells #[.int .i64 0, .slice (some ⟨b, o, none⟩) 1 ku, .bool false] 40)
    have k1 := cell_alloc c1 (.cells #[.int .i64 0, .slice (some ⟨b, o, none⟩) 1 ku, .bool false] 40)
    have k2 := cell_alloc c2 (.cells #[.int .i64 0, .slice (some ⟨b, o, none⟩) 1 ku, .bool false] 40)
    have k3 := cell_alloc c3 (.cells #[.int .i64 0, .slice (some ⟨b, o, none⟩) 1 ku, .bool false] 40)
    go_wp2_with fail
    clear c0 c1 c2 c3 k0 k1 k2 k3 I1
    refine (ttt 1 X false _).mono ?_
    rintro e w2 ⟨rfl, hB⟩
    replace V := hid (var_below hB V.out)
    replace BB := hid (BB.out.trans (hB.mono BB.out.size))
    clear hB n0
    rw [if_neg (by decide)]
    have V2 := hid (cr_row (new := #[.int .i64 0, .int .i64 X.n, .int .i64 X.i, .int .i64 X.s, .int .i64 X.m, .bool false]) V.out)
    have B2 := hid (cr_below (L := #[.int .i64 0, .int .i64 X.n, .int .i64 X.i, .int .i64 X.s, .int .i64 X.m, .bool false]) BB.out LG.out)
    go_wp2_with (first | fail | refine wpList_store_row rfl 57 _ _ rfl g #[.int .i64 0, .int .i64 X.n, .int .i64 X.i, .int .i64 X.s, .int .i64 X.m, .bool false] rfl rfl 57 _ V.out (cr_info _ rfl) rfl (cr_one _ _ _ _ _ _) ?_)
    exact bodyPost_ret (v := .agg #[.int .i64 0, .int .i64 X.n, .int .i64 X.i, .int .i64 X.s, .int .i64 X.m, .bool false]) (results_cell_row rfl _ _ g 57 _ _ _ rfl V2.out Try.underlying57 rfl (by kernel_rfl)) rfl ⟨by have e := hR.out.trans E.out; rw [e]; first | done | rfl, B2.out⟩
end Go.Proofs.Ytalaolfcdaaaoaa.W

namespace Go.Proofs.Ytalaolfcdaaaoaa.W
open Go.ChangeShapes Go.WideShapes Go.ChangeAt Go.RowKit
open Go.Proofs.Ytalaolfcdaaaoaa.M

set_option maxHeartbeats 4000000 in
set_option maxRecDepth 100000 in
theorem sref (own c : Clm) (w : World) :
    Calls Try.prog 35 #[.agg #[.int .i64 own.n, .int .i64 own.i, .int .i64 own.s, .int .i64 own.m], .agg #[.int .i64 c.n, .int .i64 c.i, .int .i64 c.s, .int .i64 c.m]] w fun e w' => e = .returned (.agg #[.int .i64 (rfA own c).1, .int .i64 (rfA own c).2.1.n, .int .i64 (rfA own c).2.1.i, .int .i64 (rfA own c).2.1.s, .int .i64 (rfA own c).2.1.m, .bool (rfA own c).2.2]) ∧ Below w.heap.size w w' := by
  obtain ⟨R, hR⟩ : ∃ R, R = rfA own c := ⟨_, rfl⟩
  rw [← hR]
  replace hR := hid hR
  have VA := hid (var_alloc (.cells #[.int .i64 0, .int .i64 0, .int .i64 0, .int .i64 0, .int .i64 0, .bool false] 57) (var_alloc (.cells #[.int .i64 c.n, .int .i64 c.i, .int .i64 c.s, .int .i64 c.m] 38) (heap_alloc_new w (.cells #[.int .i64 own.n, .int .i64 own.i, .int .i64 own.s, .int .i64 own.m] 38))))
  have VC := hid (var_alloc (.cells #[.int .i64 0, .int .i64 0, .int .i64 0, .int .i64 0, .int .i64 0, .bool false] 57) (heap_alloc_new (w.alloc (.cells #[.int .i64 own.n, .int .i64 own.i, .int .i64 own.s, .int .i64 own.m] 38)) (.cells #[.int .i64 c.n, .int .i64 c.i, .int .i64 c.s, .int .i64 c.m] 38)))
  have V := hid (heap_alloc_new ((w.alloc (.cells #[.int .i64 own.n, .int .i64 own.i, .int .i64 own.s, .int .i64 own.m] 38)).alloc (.cells #[.int .i64 c.n, .int .i64 c.i, .int .i64 c.s, .int .i64 c.m] 38)) (.cells #[.int .i64 0, .int .i64 0, .int .i64 0, .int .i64 0, .int .i64 0, .bool false] 57))
  simp only [World.size_alloc] at VC V
  have BB := hid ((below_alloc2 w (.cells #[.int .i64 own.n, .int .i64 own.i, .int .i64 own.s, .int .i64 own.m] 38) (.cells #[.int .i64 c.n, .int .i64 c.i, .int .i64 c.s, .int .i64 c.m] 38)).trans ((below_alloc1 ((w.alloc (.cells #[.int .i64 own.n, .int .i64 own.i, .int .i64 own.s, .int .i64 own.m] 38)).alloc (.cells #[.int .i64 c.n, .int .i64 c.i, .int .i64 c.s, .int .i64 c.m] 38)) (.cells #[.int .i64 0, .int .i64 0, .int .i64 0, .int .i64 0, .int .i64 0, .bool false] 57)).mono (below_alloc2 w (.cells #[.int .i64 own.n, .int .i64 own.i, .int .i64 own.s, .int .i64 own.m] 38) (.cells #[.int .i64 c.n, .int .i64 c.i, .int .i64 c.s, .int .i64 c.m] 38)).size))
  go_enter Try.func35, Try.ntmps35
  go_wp2_with fail
  generalize ((w.alloc (.cells #[.int .i64 own.n, .int .i64 own.i, .int .i64 own.s, .int .i64 own.m] 38)).alloc (.cells #[.int .i64 c.n, .int .i64 c.i, .int .i64 c.s, .int .i64 c.m] 38)).alloc (.cells #[.int .i64 0, .int .i64 0, .int .i64 0, .int .i64 0, .int .i64 0, .bool false] 57) = w0 at *
  obtain ⟨g, hg⟩ : ∃ g, g = w.heap.size + 1 + 1 := ⟨_, rfl⟩
  rw [← hg] at V ⊢
  obtain ⟨gc, hgc⟩ : ∃ g, g = w.heap.size + 1 := ⟨_, rfl⟩
  rw [← hgc] at VC ⊢
  obtain ⟨ga, hga⟩ : ∃ g, g = w.heap.size := ⟨_, rfl⟩
  have LG := hid (show w.heap.size ≤ g by omega)
  have LA := hid (show w.heap.size ≤ ga ∧ g ≠ ga by omega)
  rw [← hga] at VA ⊢
  replace hg := hid hg
  replace hgc := hid hgc
  replace hga := hid hga
  refine (sclf _ _ _ _ _).mono ?_
  rintro e w1 ⟨rfl, hB⟩
  replace VA := hid (var_below hB VA.out)
  replace VC := hid (var_below hB VC.out)
  replace V := hid (var_below hB V.out)
  replace BB := hid (BB.out.trans (hB.mono BB.out.size))
  clear hB
  obtain ⟨t, ht⟩ : ∃ t, t = clC own := ⟨_, rfl⟩
  rw [show clF own.n own.i own.s own.m = t from ht.symm]
  replace ht := hid ht
  by_cases h0 : t = 0
  case neg =>
    have E := hid (show rfA own c = (t, zC, false) by rw [rfA, if_pos (by rw [← ht.out]; exact h0), ← ht.out])
    have V2 := hid (cr_row (new := #[.int .i64 t, .int .i64 0, .int .i64 0, .int .i64 0, .int .i64 0, .bool false]) V.out)
    have B2 := hid (cr_below (L := #[.int .i64 t, .int .i64 0, .int .i64 0, .int .i64 0, .int .i64 0, .bool false]) BB.out LG.out)
    go_wp2_with (first | refine buildC rfl 57 _ rfl _ (cr_e0 (c := t) (by simp [Act.eval])) ?_ | refine wpList_store_row rfl 57 _ _ rfl g #[.int .i64 t, .int .i64 0, .int .i64 0, .int .i64 0, .int .i64 0, .bool false] rfl rfl 57 _ V.out (cr_info _ rfl) rfl (cr_one _ _ _ _ _ _) ?_)
    exact bodyPost_ret (v := .agg #[.int .i64 t, .int .i64 0, .int .i64 0, .int .i64 0, .int .i64 0, .bool false]) (results_cell_row rfl _ _ g 57 _ _ _ rfl V2.out Try.underlying57 rfl (by kernel_rfl)) rfl ⟨by have e := hR.out.trans E.out; rw [e]; first | done | rfl, B2.out⟩
  subst h0
  obtain ⟨⟨a0, a1, a2, a3⟩, af0, af1, af2, af3⟩ := var4_factsC VA.out
  obtain ⟨⟨b0, b1, b2, b3⟩, -⟩ := var4_factsC VC.out
  go_wp2_with fail
  clear a0 a1 a2 a3 af0 af1 af2 af3 b0 b1 b2 b3
  refine (sclf _ _ _ _ _).mono ?_
  rintro e w2 ⟨rfl, hB⟩
  replace VA := hid (var_below hB VA.out)
  replace VC := hid (var_below hB VC.out)
  replace V := hid (var_below hB V.out)
  replace BB := hid (BB.out.trans (hB.mono BB.out.size))
  clear hB
  obtain ⟨u, hu⟩ : ∃ t, t = clC c := ⟨_, rfl⟩
  rw [show clF c.n c.i c.s c.m = u from hu.symm]
  replace hu := hid hu
  by_cases h0 : u = 0
  case neg =>
    have E := hid (show rfA own c = (u, zC, false) by rw [rfA, if_neg (by rw [← ht.out]; simp), if_pos (by rw [← hu.out]; exact h0), ← hu.out])
    have V2 := hid (cr_row (new := #[.int .i64 u, .int .i64 0, .int .i64 0, .int .i64 0, .int .i64 0, .bool false]) V.out)
    have B2 := hid (cr_below (L := #[.int .i64 u, .int .i64 0, .int .i64 0, .int .i64 0, .int .i64 0, .bool false]) BB.out LG.out)
    go_wp2_with (first | refine buildC rfl 57 _ rfl _ (cr_e0 (c := u) (by simp [Act.eval])) ?_ | refine wpList_store_row rfl 57 _ _ rfl g #[.int .i64 u, .int .i64 0, .int .i64 0, .int .i64 0, .int .i64 0, .bool false] rfl rfl 57 _ V.out (cr_info _ rfl) rfl (cr_one _ _ _ _ _ _) ?_)
    exact bodyPost_ret (v := .agg #[.int .i64 u, .int .i64 0, .int .i64 0, .int .i64 0, .int .i64 0, .bool false]) (results_cell_row rfl _ _ g 57 _ _ _ rfl V2.out Try.underlying57 rfl (by kernel_rfl)) rfl ⟨by have e := hR.out.trans E.out; rw [e]; first | done | rfl, B2.out⟩
  subst h0
  by_cases hn : c.n = own.n
  case neg =>
    have E := hid (show rfA own c = (1, zC, false) by rw [rfA, if_neg (by rw [← ht.out]; simp), if_neg (by rw [← hu.out]; simp), if_pos hn])
    have n0 : (c.n != own.n) = true := by simp [hn]
    replace hn := hid hn
    obtain ⟨⟨a0, a1, a2, a3⟩, af0, af1, af2, af3⟩ := var4_factsC VA.out
    obtain ⟨⟨b0, b1, b2, b3⟩, -⟩ := var4_factsC VC.out
    have V2 := hid (cr_row (new := #[.int .i64 1, .int .i64 0, .int .i64 0, .int .i64 0, .int .i64 0, .bool false]) V.out)
    have B2 := hid (cr_below (L := #[.int .i64 1, .int .i64 0, .int .i64 0, .int .i64 0, .int .i64 0, .bool false]) BB.out LG.out)
    go_wp2_with (first | refine buildC rfl 57 _ rfl _ (cr_e0 (c := 1) (by simp [Act.eval])) ?_ | refine wpList_store_row rfl 57 _ _ rfl g #[.int .i64 1, .int .i64 0, .int .i64 0, .int .i64 0, .int .i64 0, .bool false] rfl rfl 57 _ V.out (cr_info _ rfl) rfl (cr_one _ _ _ _ _ _) ?_)
    exact bodyPost_ret (v := .agg #[.int .i64 1, .int .i64 0, .int .i64 0, .int .i64 0, .int .i64 0, .bool false]) (results_cell_row rfl _ _ g 57 _ _ _ rfl V2.out Try.underlying57 rfl (by kernel_rfl)) rfl ⟨by have e := hR.out.trans E.out; rw [e]; first | done | rfl, B2.out⟩
  have n0 : (c.n != own.n) = false := by simp [hn]
  replace hn := hid hn
  have HN := hid (show ¬ c.n ≠ own.n from fun q => q hn.out)
  obtain ⟨⟨a0, a1, a2, a3⟩, af0, af1, af2, af3⟩ := var4_factsC VA.out
  obtain ⟨⟨b0, b1, b2, b3⟩, -⟩ := var4_factsC VC.out
  go_wp2_with fail
  clear a0 a1 a2 a3 af0 af1 af2 af3 b0 b1 b2 b3
  clear n0
  refine (sbt c own _).mono ?_
  rintro e w5 ⟨rfl, hB⟩
  replace VA := hid (var_below hB VA.out)
  replace VC := hid (var_below hB VC.out)
  replace V := hid (var_below hB V.out)
  replace BB := hid (BB.out.trans (hB.mono BB.out.size))
  clear hB
  obtain ⟨b, hb⟩ : ∃ b, b = bC c own := ⟨_, rfl⟩
  rw [← hb]
  replace hb := hid hb
  cases b
  case false =>
    have E := hid (show rfA own c = (0, own, false) by rw [rfA, if_neg (by rw [← ht.out]; simp), if_neg (by rw [← hu.out]; simp), if_neg HN.out, if_pos hb.out.symm])
    obtain ⟨⟨a0, a1, a2, a3⟩, af0, af1, af2, af3⟩ := var4_factsC VA.out
    obtain ⟨⟨b0, b1, b2, b3⟩, -⟩ := var4_factsC VC.out
    have V2 := hid (cr_row (new := #[.int .i64 0, .int .i64 own.n, .int .i64 own.i, .int .i64 own.s, .int .i64 own.m, .bool false]) V.out)
    have B2 := hid (cr_below (L := #[.int .i64 0, .int .i64 own.n, .int .i64 own.i, .int .i64 own.s, .int .i64 own.m, .bool false]) BB.out LG.out)
    go_wp2_with (first | refine buildC rfl 57 _ rfl _ (cr_e1 (n := own.n) (i := own.i) (s := own.s) (m := own.m) (by simp [Act.eval])) ?_ | refine wpList_store_row rfl 57 _ _ rfl g #[.int .i64 0, .int .i64 own.n, .int .i64 own.i, .int .i64 own.s, .int .i64 own.m, .bool false] rfl rfl 57 _ V.out (cr_info _ rfl) rfl (cr_one _ _ _ _ _ _) ?_)
    exact bodyPost_ret (v := .agg #[.int .i64 0, .int .i64 own.n, .int .i64 own.i, .int .i64 own.s, .int .i64 own.m, .bool false]) (results_cell_row rfl _ _ g 57 _ _ _ rfl V2.out Try.underlying57 rfl (by kernel_rfl)) rfl ⟨by have e := hR.out.trans E.out; rw [e]; first | done | rfl, B2.out⟩
  have HB := hid (show ¬ bC c own = false by rw [← hb.out]; simp)
  obtain ⟨i0, i1⟩ := clC_i hu.out.symm
  by_cases hi : 1000000 ≤ c.i
  case pos =>
    have E := hid (show rfA own c = (7, zC, false) by rw [rfA, if_neg (by rw [← ht.out]; simp), if_neg (by rw [← hu.out]; simp), if_neg HN.out, if_neg HB.out, if_pos hi])
    obtain ⟨⟨a0, a1, a2, a3⟩, af0, af1, af2, af3⟩ := var4_factsC VA.out
    obtain ⟨⟨b0, b1, b2, b3⟩, -⟩ := var4_factsC VC.out
    have V2 := hid (cr_row (new := #[.int .i64 7, .int .i64 0, .int .i64 0, .int .i64 0, .int .i64 0, .bool false]) V.out)
    have B2 := hid (cr_below (L := #[.int .i64 7, .int .i64 0, .int .i64 0, .int .i64 0, .int .i64 0, .bool false]) BB.out LG.out)
    go_wp2_with (first | refine buildC rfl 57 _ rfl _ (cr_e0 (c := 7) (by simp [Act.eval])) ?_ | refine wpList_store_row rfl 57 _ _ rfl g #[.int .i64 7, .int .i64 0, .int .i64 0, .int .i64 0, .int .i64 0, .bool false] rfl rfl 57 _ V.out (cr_info _ rfl) rfl (cr_one _ _ _ _ _ _) ?_)
    exact bodyPost_ret (v := .agg #[.int .i64 7, .int .i64 0, .int .i64 0, .int .i64 0, .int .i64 0, .bool false]) (results_cell_row rfl _ _ g 57 _ _ _ rfl V2.out Try.underlying57 rfl (by kernel_rfl)) rfl ⟨by have e := hR.out.trans E.out; rw [e]; first | done | rfl, B2.out⟩
  have E := hid (show rfA own c = (0, ⟨own.n, c.i + 1, 0, own.m⟩, true) by rw [rfA, if_neg (by rw [← ht.out]; simp), if_neg (by rw [← hu.out]; simp), if_neg HN.out, if_neg HB.out, if_neg hi])
  have VS := hid (var_setotherC (k := ga) (i := 2) (x := .int .i64 0) (var_setotherC (k := ga) (i := 1) (x := .int .i64 (c.i + 1)) V.out LA.out.2) LA.out.2)
  have BS := hid ((BB.out.setCell (p := ⟨ga, 1, none⟩) LA.out.1 (.int .i64 (c.i + 1))).setCell (p := ⟨ga, 2, none⟩) LA.out.1 (.int .i64 0))
  obtain ⟨⟨a0, a1, a2, a3⟩, af0, af1, af2, af3⟩ := var4_factsC VA.out
  obtain ⟨⟨b0, b1, b2, b3⟩, -⟩ := var4_factsC VC.out
  have V2 := hid (cr_row (new := #[.int .i64 0, .int .i64 own.n, .int .i64 (c.i + 1), .int .i64 0, .int .i64 own.m, .bool true]) VS.out)
  have B2 := hid (cr_below (L := #[.int .i64 0, .int .i64 own.n, .int .i64 (c.i + 1), .int .i64 0, .int .i64 own.m, .bool true]) BS.out LG.out)
  go_wp2_with (first | refine buildC rfl 57 _ rfl _ (cr_e12 (n := own.n) (i := c.i + 1) (s := 0) (m := own.m) (t := true) (by simp [Act.eval])) ?_ | refine wpList_store_row rfl 57 _ _ rfl g #[.int .i64 0, .int .i64 own.n, .int .i64 (c.i + 1), .int .i64 0, .int .i64 own.m, .bool true] rfl rfl 57 _ VS.out (cr_info _ rfl) rfl (cr_one _ _ _ _ _ _) ?_)
  exact bodyPost_ret (v := .agg #[.int .i64 0, .int .i64 own.n, .int .i64 (c.i + 1), .int .i64 0, .int .i64 own.m, .bool true]) (results_cell_row rfl _ _ g 57 _ _ _ rfl V2.out Try.underlying57 rfl (by kernel_rfl)) rfl ⟨by have e := hR.out.trans E.out; rw [e]; first | done | rfl, B2.out⟩
end Go.Proofs.Ytalaolfcdaaaoaa.W

namespace Go.Proofs.Ytalaolfcdaaaoaa.W
open Go.ChangeShapes Go.WideShapes Go.ChangeAt Go.RowKit
open Go.Proofs.Ytalaolfcdaaaoaa.M

set_option maxHeartbeats 4000000 in
set_option maxRecDepth 100000 in
theorem iref (own c : Clm) (w : World) :
    Calls Try.prog 30 #[.agg #[.int .i64 own.n, .int .i64 own.i, .int .i64 own.s, .int .i64 own.m], .agg #[.int .i64 c.n, .int .i64 c.i, .int .i64 c.s, .int .i64 c.m]] w fun e w' => e = .returned (.agg #[.int .i64 (rfA own c).1, .int .i64 (rfA own c).2.1.n, .int .i64 (rfA own c).2.1.i, .int .i64 (rfA own c).2.1.s, .int .i64 (rfA own c).2.1.m, .bool (rfA own c).2.2]) ∧ Below w.heap.size w w' := by
  obtain ⟨R, hR⟩ : ∃ R, R = rfA own c := ⟨_, rfl⟩
  rw [← hR]
  replace hR := hid hR
  have VA := hid (var_alloc (.cells #[.int .i64 0, .int .i64 0, .int .i64 0, .int .i64 0, .int .i64 0, .bool false] 57) (var_alloc (.cells #[.int .i64 c.n, .int .i64 c.i, .int .i64 c.s, .int .i64 c.m] 38) (heap_alloc_new w (.cells #[.int .i64 own.n, .int .i64 own.i, .int .i64 own.s, .int .i64 own.m] 38))))
  have VC := hid (var_alloc (.cells #[.int .i64 0, .int .i64 0, .int .i64 0, .int .i64 0, .int .i64 0, .bool false] 57) (heap_alloc_new (w.alloc (.cells #[.int .i64 own.n, .int .i64 own.i, .int .i64 own.s, .int .i64 own.m] 38)) (.cells #[.int .i64 c.n, .int .i64 c.i, .int .i64 c.s, .int .i64 c.m] 38)))
  have V := hid (heap_alloc_new ((w.alloc (.cells #[.int .i64 own.n, .int .i64 own.i, .int .i64 own.s, .int .i64 own.m] 38)).alloc (.cells #[.int .i64 c.n, .int .i64 c.i, .int .i64 c.s, .int .i64 c.m] 38)) (.cells #[.int .i64 0, .int .i64 0, .int .i64 0, .int .i64 0, .int .i64 0, .bool false] 57))
  simp only [World.size_alloc] at VC V
  have BB := hid ((below_alloc2 w (.cells #[.int .i64 own.n, .int .i64 own.i, .int .i64 own.s, .int .i64 own.m] 38) (.cells #[.int .i64 c.n, .int .i64 c.i, .int .i64 c.s, .int .i64 c.m] 38)).trans ((below_alloc1 ((w.alloc (.cells #[.int .i64 own.n, .int .i64 own.i, .int .i64 own.s, .int .i64 own.m] 38)).alloc (.cells #[.int .i64 c.n, .int .i64 c.i, .int .i64 c.s, .int .i64 c.m] 38)) (.cells #[.int .i64 0, .int .i64 0, .int .i64 0, .int .i64 0, .int .i64 0, .bool false] 57)).mono (below_alloc2 w (.cells #[.int .i64 own.n, .int .i64 own.i, .int .i64 own.s, .int .i64 own.m] 38) (.cells #[.int .i64 c.n, .int .i64 c.i, .int .i64 c.s, .int .i64 c.m] 38)).size))
  go_enter Try.func30, Try.ntmps30
  have X0 : ∀ w : World, (Instr.index 121 (.agg #[.int .i64 own.n, .int .i64 own.i, .int .i64 own.s, .int .i64 own.m, .int .i64 c.n, .int .i64 c.i, .int .i64 c.s, .int .i64 c.m]) (.int .i64 0)).run Try.prog w = .ok (.agg #[.int .i64 own.n, .int .i64 own.i, .int .i64 own.s, .int .i64 own.m]) w := fun _ => by kernel_rfl
  have X1 : ∀ w : World, (Instr.index 121 (.agg #[.int .i64 own.n, .int .i64 own.i, .int .i64 own.s, .int .i64 own.m, .int .i64 c.n, .int .i64 c.i, .int .i64 c.s, .int .i64 c.m]) (.int .i64 1)).run Try.prog w = .ok (.agg #[.int .i64 c.n, .int .i64 c.i, .int .i64 c.s, .int .i64 c.m]) w := fun _ => by kernel_rfl
  go_wp2_with fail
  generalize ((w.alloc (.cells #[.int .i64 own.n, .int .i64 own.i, .int .i64 own.s, .int .i64 own.m] 38)).alloc (.cells #[.int .i64 c.n, .int .i64 c.i, .int .i64 c.s, .int .i64 c.m] 38)).alloc (.cells #[.int .i64 0, .int .i64 0, .int .i64 0, .int .i64 0, .int .i64 0, .bool false] 57) = w0 at *
  obtain ⟨g, hg⟩ : ∃ g, g = w.heap.size + 1 + 1 := ⟨_, rfl⟩
  rw [← hg] at V ⊢
  obtain ⟨gc, hgc⟩ : ∃ g, g = w.heap.size + 1 := ⟨_, rfl⟩
  rw [← hgc] at VC ⊢
  obtain ⟨ga, hga⟩ : ∃ g, g = w.heap.size := ⟨_, rfl⟩
  have LG := hid (show w.heap.size ≤ g by omega)
  have LA := hid (show w.heap.size ≤ ga ∧ g ≠ ga by omega)
  rw [← hga] at VA ⊢
  replace hg := hid hg
  replace hgc := hid hgc
  replace hga := hid hga
  refine wp_loop_rounds 3 ?_
  rw [rounds_succ]
  have hB := below_alloc1 w0 (.cells #[.int .i64 own.n, .int .i64 own.i, .int .i64 own.s, .int .i64 own.m] 38)
  replace VA := hid (var_below hB VA.out)
  replace VC := hid (var_below hB VC.out)
  replace V := hid (var_below hB V.out)
  replace BB := hid (BB.out.trans (hB.mono BB.out.size))
  clear hB
  go_wp2_with fail
  refine (iclf _ _ _ _ _).mono ?_
  rintro e w1 ⟨rfl, hB⟩
  replace VA := hid (var_below hB VA.out)
  replace VC := hid (var_below hB VC.out)
  replace V := hid (var_below hB V.out)
  replace BB := hid (BB.out.trans (hB.mono BB.out.size))
  clear hB
  obtain ⟨t, ht⟩ : ∃ t, t = clC own := ⟨_, rfl⟩
  rw [show clF own.n own.i own.s own.m = t from ht.symm]
  replace ht := hid ht
  by_cases h0 : t = 0
  case neg =>
    have E := hid (show rfA own c = (t, zC, false) by rw [rfA, if_pos (by rw [← ht.out]; exact h0), ← ht.out])
    have V2 := hid (cr_row (new := #[.int .i64 t, .int .i64 0, .int .i64 0, .int .i64 0, .int .i64 0, .bool false]) V.out)
    have B2 := hid (cr_below (L := #[.int .i64 t, .int .i64 0, .int .i64 0, .int .i64 0, .int .i64 0, .bool false]) BB.out LG.out)
    go_wp2_with (first | refine buildC rfl 57 _ rfl _ (cr_e0 (c := t) (by simp [Act.eval])) ?_ | refine wpList_store_row rfl 57 _ _ rfl g #[.int .i64 t, .int .i64 0, .int .i64 0, .int .i64 0, .int .i64 0, .bool false] rfl rfl 57 _ V.out (cr_info _ rfl) rfl (cr_one _ _ _ _ _ _) ?_)
    exact bodyPost_ret (v := .agg #[.int .i64 t, .int .i64 0, .int .i64 0, .int .i64 0, .int .i64 0, .bool false]) (results_cell_row rfl _ _ g 57 _ _ _ rfl V2.out Try.underlying57 rfl (by kernel_rfl)) rfl ⟨by have e := hR.out.trans E.out; rw [e]; first | done | rfl, B2.out⟩
  subst h0
  go_wp2
  rw [rounds_succ]
  have hB := below_alloc1 w1 (.cells #[.int .i64 c.n, .int .i64 c.i, .int .i64 c.s, .int .i64 c.m] 38)
  replace VA := hid (var_below hB VA.out)
  replace VC := hid (var_below hB VC.out)
  replace V := hid (var_below hB V.out)
  replace BB := hid (BB.out.trans (hB.mono BB.out.size))
  clear hB
  go_wp2_with fail
  refine (iclf _ _ _ _ _).mono ?_
  rintro e w2 ⟨rfl, hB⟩
  replace VA := hid (var_below hB VA.out)
  replace VC := hid (var_below hB VC.out)
  replace V := hid (var_below hB V.out)
  replace BB := hid (BB.out.trans (hB.mono BB.out.size))
  clear hB
  obtain ⟨u, hu⟩ : ∃ t, t = clC c := ⟨_, rfl⟩
  rw [show clF c.n c.i c.s c.m = u from hu.symm]
  replace hu := hid hu
  by_cases h0 : u = 0
  case neg =>
    have E := hid (show rfA own c = (u, zC, false) by rw [rfA, if_neg (by rw [← ht.out]; simp), if_pos (by rw [← hu.out]; exact h0), ← hu.out])
    have V2 := hid (cr_row (new := #[.int .i64 u, .int .i64 0, .int .i64 0, .int .i64 0, .int .i64 0, .bool false]) V.out)
    have B2 := hid (cr_below (L := #[.int .i64 u, .int .i64 0, .int .i64 0, .int .i64 0, .int .i64 0, .bool false]) BB.out LG.out)
    go_wp2_with (first | refine buildC rfl 57 _ rfl _ (cr_e0 (c := u) (by simp [Act.eval])) ?_ | refine wpList_store_row rfl 57 _ _ rfl g #[.int .i64 u, .int .i64 0, .int .i64 0, .int .i64 0, .int .i64 0, .bool false] rfl rfl 57 _ V.out (cr_info _ rfl) rfl (cr_one _ _ _ _ _ _) ?_)
    exact bodyPost_ret (v := .agg #[.int .i64 u, .int .i64 0, .int .i64 0, .int .i64 0, .int .i64 0, .bool false]) (results_cell_row rfl _ _ g 57 _ _ _ rfl V2.out Try.underlying57 rfl (by kernel_rfl)) rfl ⟨by have e := hR.out.trans E.out; rw [e]; first | done | rfl, B2.out⟩
  subst h0
  go_wp2
  rw [rounds_succ]
  by_cases hn : c.n = own.n
  case neg =>
    have E := hid (show rfA own c = (1, zC, false) by rw [rfA, if_neg (by rw [← ht.out]; simp), if_neg (by rw [← hu.out]; simp), if_pos hn])
    have n0 : (c.n != own.n) = true := by simp [hn]
    replace hn := hid hn
    obtain ⟨⟨a0, a1, a2, a3⟩, af0, af1, af2, af3⟩ := var4_factsC VA.out
    obtain ⟨⟨b0, b1, b2, b3⟩, -⟩ := var4_factsC VC.out
    have V2 := hid (cr_row (new := #[.int .i64 1, .int .i64 0, .int .i64 0, .int .i64 0, .int .i64 0, .bool false]) V.out)
    have B2 := hid (cr_below (L := #[.int .i64 1, .int .i64 0, .int .i64 0, .int .i64 0, .int .i64 0, .bool false]) BB.out LG.out)
    go_wp2_with (first | refine buildC rfl 57 _ rfl _ (cr_e0 (c := 1) (by simp [Act.eval])) ?_ | refine wpList_store_row rfl 57 _ _ rfl g #[.int .i64 1, .int .i64 0, .int .i64 0, .int .i64 0, .int .i64 0, .bool false] rfl rfl 57 _ V.out (cr_info _ rfl) rfl (cr_one _ _ _ _ _ _) ?_)
    exact bodyPost_ret (v := .agg #[.int .i64 1, .int .i64 0, .int .i64 0, .int .i64 0, .int .i64 0, .bool false]) (results_cell_row rfl _ _ g 57 _ _ _ rfl V2.out Try.underlying57 rfl (by kernel_rfl)) rfl ⟨by have e := hR.out.trans E.out; rw [e]; first | done | rfl, B2.out⟩
  have n0 : (c.n != own.n) = false := by simp [hn]
  replace hn := hid hn
  have HN := hid (show ¬ c.n ≠ own.n from fun q => q hn.out)
  obtain ⟨⟨a0, a1, a2, a3⟩, af0, af1, af2, af3⟩ := var4_factsC VA.out
  obtain ⟨⟨b0, b1, b2, b3⟩, -⟩ := var4_factsC VC.out
  go_wp2_with fail
  clear a0 a1 a2 a3 af0 af1 af2 af3 b0 b1 b2 b3
  clear n0
  refine (ibt c own _).mono ?_
  rintro e w5 ⟨rfl, hB⟩
  replace VA := hid (var_below hB VA.out)
  replace VC := hid (var_below hB VC.out)
  replace V := hid (var_below hB V.out)
  replace BB := hid (BB.out.trans (hB.mono BB.out.size))
  clear hB
  obtain ⟨b, hb⟩ : ∃ b, b = bC c own := ⟨_, rfl⟩
  rw [← hb]
  replace hb := hid hb
  cases b
  case false =>
    have E := hid (show rfA own c = (0, own, false) by rw [rfA, if_neg (by rw [← ht.out]; simp), if_neg (by rw [← hu.out]; simp), if_neg HN.out, if_pos hb.out.symm])
    obtain ⟨⟨a0, a1, a2, a3⟩, af0, af1, af2, af3⟩ := var4_factsC VA.out
    obtain ⟨⟨b0, b1, b2, b3⟩, -⟩ := var4_factsC VC.out
    have V2 := hid (cr_row (new := #[.int .i64 0, .int .i64 own.n, .int .i64 own.i, .int .i64 own.s, .int .i64 own.m, .bool false]) V.out)
    have B2 := hid (cr_below (L := #[.int .i64 0, .int .i64 own.n, .int .i64 own.i, .int .i64 own.s, .int .i64 own.m, .bool false]) BB.out LG.out)
    go_wp2_with (first | refine buildC rfl 57 _ rfl _ (cr_e1 (n := own.n) (i := own.i) (s := own.s) (m := own.m) (by simp [Act.eval])) ?_ | refine wpList_store_row rfl 57 _ _ rfl g #[.int .i64 0, .int .i64 own.n, .int .i64 own.i, .int .i64 own.s, .int .i64 own.m, .bool false] rfl rfl 57 _ V.out (cr_info _ rfl) rfl (cr_one _ _ _ _ _ _) ?_)
    exact bodyPost_ret (v := .agg #[.int .i64 0, .int .i64 own.n, .int .i64 own.i, .int .i64 own.s, .int .i64 own.m, .bool false]) (results_cell_row rfl _ _ g 57 _ _ _ rfl V2.out Try.underlying57 rfl (by kernel_rfl)) rfl ⟨by have e := hR.out.trans E.out; rw [e]; first | done | rfl, B2.out⟩
  have HB := hid (show ¬ bC c own = false by rw [← hb.out]; simp)
  obtain ⟨i0, i1⟩ := clC_i hu.out.symm
  by_cases hi : 1000000 ≤ c.i
  case pos =>
    have E := hid (show rfA own c = (7, zC, false) by rw [rfA, if_neg (by rw [← ht.out]; simp), if_neg (by rw [← hu.out]; simp), if_neg HN.out, if_neg HB.out, if_pos hi])
    have n1 : (c.i == 1000000) = true := by simp; omega
    replace hi := hid hi
    obtain ⟨⟨a0, a1, a2, a3⟩, af0, af1, af2, af3⟩ := var4_factsC VA.out
    obtain ⟨⟨b0, b1, b2, b3⟩, -⟩ := var4_factsC VC.out
    have V2 := hid (cr_row (new := #[.int .i64 7, .int .i64 0, .int .i64 0, .int .i64 0, .int .i64 0, .bool false]) V.out)
    have B2 := hid (cr_below (L := #[.int .i64 7, .int .i64 0, .int .i64 0, .int .i64 0, .int .i64 0, .bool false]) BB.out LG.out)
    go_wp2_with (first | refine buildC rfl 57 _ rfl _ (cr_e0 (c := 7) (by simp [Act.eval])) ?_ | refine wpList_store_row rfl 57 _ _ rfl g #[.int .i64 7, .int .i64 0, .int .i64 0, .int .i64 0, .int .i64 0, .bool false] rfl rfl 57 _ V.out (cr_info _ rfl) rfl (cr_one _ _ _ _ _ _) ?_)
    exact bodyPost_ret (v := .agg #[.int .i64 7, .int .i64 0, .int .i64 0, .int .i64 0, .int .i64 0, .bool false]) (results_cell_row rfl _ _ g 57 _ _ _ rfl V2.out Try.underlying57 rfl (by kernel_rfl)) rfl ⟨by have e := hR.out.trans E.out; rw [e]; first | done | rfl, B2.out⟩
  have E := hid (show rfA own c = (0, ⟨own.n, c.i + 1, 0, own.m⟩, true) by rw [rfA, if_neg (by rw [← ht.out]; simp), if_neg (by rw [← hu.out]; simp), if_neg HN.out, if_neg HB.out, if_neg hi])
  have n1 : (c.i == 1000000) = false := by simp; omega
  have VS := hid (var_setotherC (k := ga) (i := 1) (x := .int .i64 (c.i + 1)) V.out LA.out.2)
  have BS := hid (BB.out.setCell (p := ⟨ga, 1, none⟩) LA.out.1 (.int .i64 (c.i + 1)))
  obtain ⟨⟨a0, a1, a2, a3⟩, af0, af1, af2, af3⟩ := var4_factsC VA.out
  obtain ⟨⟨b0, b1, b2, b3⟩, -⟩ := var4_factsC VC.out
  go_wp2_with fail
  clear a0 a1 a2 a3 af0 af1 af2 af3 b0 b1 b2 b3
  refine (ttt 0 ⟨own.n, c.i + 1, own.s, own.m⟩ true _).mono ?_
  rintro e w6 ⟨rfl, hB⟩
  replace VS := hid (var_below hB VS.out)
  replace BS := hid (BS.out.trans (hB.mono BS.out.size))
  clear hB n1 V VA VC BB
  rw [if_pos rfl]
  have V2 := hid (cr_row (new := #[.int .i64 0, .int .i64 own.n, .int .i64 (c.i + 1), .int .i64 0, .int .i64 own.m, .bool true]) VS.out)
  have B2 := hid (cr_below (L := #[.int .i64 0, .int .i64 own.n, .int .i64 (c.i + 1), .int .i64 0, .int .i64 own.m, .bool true]) BS.out LG.out)
  go_wp2_with (first | fail | refine wpList_store_row rfl 57 _ _ rfl g #[.int .i64 0, .int .i64 own.n, .int .i64 (c.i + 1), .int .i64 0, .int .i64 own.m, .bool true] rfl rfl 57 _ VS.out (cr_info _ rfl) rfl (cr_one _ _ _ _ _ _) ?_)
  exact bodyPost_ret (v := .agg #[.int .i64 0, .int .i64 own.n, .int .i64 (c.i + 1), .int .i64 0, .int .i64 own.m, .bool true]) (results_cell_row rfl _ _ g 57 _ _ _ rfl V2.out Try.underlying57 rfl (by kernel_rfl)) rfl ⟨by have e := hR.out.trans E.out; rw [e]; first | done | rfl, B2.out⟩
end Go.Proofs.Ytalaolfcdaaaoaa.W

namespace Go.Proofs.Ytalaolfcdaaaoaa.W
open Go.ChangeShapes Go.WideShapes Go.ChangeAt Go.RowKit
open Go.Proofs.Ytalaolfcdaaaoaa.M

set_option maxHeartbeats 4000000 in
set_option maxRecDepth 100000 in
theorem sbur (v : Value) (cs : List Clm) (x : Wai) (w : World) (h : RdC w v cs) :
    Calls Try.prog 37 #[v, .agg #[.int .i64 x.a, .int .i64 x.b, .int .i64 x.c, .int .i64 x.d, .int .i64 x.e, .int .i64 x.f, .int .i64 x.g]] w fun e w' => e = .returned (.agg #[.int .i64 (buA cs x).1, .int .i64 (buA cs x).2.1.n, .int .i64 (buA cs x).2.1.i, .int .i64 (buA cs x).2.1.s, .int .i64 (buA cs x).2.1.m, .bool (buA cs x).2.2]) ∧ Below w.heap.size w w' := by
  obtain ⟨R, hR⟩ : ∃ R, R = buA cs x := ⟨_, rfl⟩
  rw [← hR]
  replace hR := hid hR
  have H := hid (h.below (below_alloc2 w (.cells #[.int .i64 x.a, .int .i64 x.b, .int .i64 x.c, .int .i64 x.d, .int .i64 x.e, .int .i64 x.f, .int .i64 x.g] 63) (.cells #[.int .i64 0, .int .i64 0, .int .i64 0, .int .i64 0, .int .i64 0, .bool false] 57)))
  obtain ⟨a, cap, rfl, -, -, -⟩ := h.parts
  clear h
  have VB := hid (var_alloc (.cells #[.int .i64 0, .int .i64 0, .int .i64 0, .int .i64 0, .int .i64 0, .bool false] 57) (heap_alloc_new w (.cells #[.int .i64 x.a, .int .i64 x.b, .int .i64 x.c, .int .i64 x.d, .int .i64 x.e, .int .i64 x.f, .int .i64 x.g] 63)))
  have V := hid (heap_alloc_new (w.alloc (.cells #[.int .i64 x.a, .int .i64 x.b, .int .i64 x.c, .int .i64 x.d, .int .i64 x.e, .int .i64 x.f, .int .i64 x.g] 63)) (.cells #[.int .i64 0, .int .i64 0, .int .i64 0, .int .i64 0, .int .i64 0, .bool false] 57))
  simp only [World.size_alloc] at V
  have BB := hid (below_alloc2 w (.cells #[.int .i64 x.a, .int .i64 x.b, .int .i64 x.c, .int .i64 x.d, .int .i64 x.e, .int .i64 x.f, .int .i64 x.g] 63) (.cells #[.int .i64 0, .int .i64 0, .int .i64 0, .int .i64 0, .int .i64 0, .bool false] 57))
  go_enter Try.func37, Try.ntmps37
  go_wp2_with fail
  generalize (w.alloc (.cells #[.int .i64 x.a, .int .i64 x.b, .int .i64 x.c, .int .i64 x.d, .int .i64 x.e, .int .i64 x.f, .int .i64 x.g] 63)).alloc (.cells #[.int .i64 0, .int .i64 0, .int .i64 0, .int .i64 0, .int .i64 0, .bool false] 57) = w0 at *
  obtain ⟨g, hg⟩ : ∃ g, g = w.heap.size + 1 := ⟨_, rfl⟩
  rw [← hg] at V ⊢
  have LG := hid (show w.heap.size ≤ g by omega)
  obtain ⟨gb, hgb⟩ : ∃ g, g = w.heap.size := ⟨_, rfl⟩
  rw [← hgb] at VB ⊢
  replace hg := hid hg
  replace hgb := hid hgb
  refine (svf _ cs _ H.out).mono ?_
  rintro e w1 ⟨rfl, hB⟩
  replace H := hid (H.out.below hB)
  replace VB := hid (var_below hB VB.out)
  replace V := hid (var_below hB V.out)
  replace BB := hid (BB.out.trans (hB.mono BB.out.size))
  clear hB
  obtain ⟨t, ht⟩ : ∃ t, t = vF cs := ⟨_, rfl⟩
  rw [← ht]
  replace ht := hid ht
  by_cases h0 : t = 0
  case neg =>
    have E := hid (bu_fault (x := x) (show vF cs ≠ 0 by rw [← ht.out]; exact h0))
    rw [← ht.out] at E
    have V2 := hid (cr_row (new := #[.int .i64 t, .int .i64 0, .int .i64 0, .int .i64 0, .int .i64 0, .bool false]) V.out)
    have B2 := hid (cr_below (L := #[.int .i64 t, .int .i64 0, .int .i64 0, .int .i64 0, .int .i64 0, .bool false]) BB.out LG.out)
    go_wp2_with (first | refine buildC rfl 57 _ rfl _ (cr_e0 (c := t) (by simp [Act.eval])) ?_ | refine wpList_store_row rfl 57 _ _ rfl g #[.int .i64 t, .int .i64 0, .int .i64 0, .int .i64 0, .int .i64 0, .bool false] rfl rfl 57 _ V.out (cr_info _ rfl) rfl (cr_one _ _ _ _ _ _) ?_)
    exact bodyPost_ret (v := .agg #[.int .i64 t, .int .i64 0, .int .i64 0, .int .i64 0, .int .i64 0, .bool false]) (results_cell_row rfl _ _ g 57 _ _ _ rfl V2.out Try.underlying57 rfl (by kernel_rfl)) rfl ⟨by have e := hR.out.trans E.out; rw [e]; first | done | rfl, B2.out⟩
  subst h0
  go_wp2_with fail
  refine (l9w gb 0 x _ (fun t v e => by rw [Nat.zero_add]; exact j_at VB.out t v e)).mono ?_
  rintro e w2 ⟨rfl, hw⟩
  subst hw
  obtain ⟨u, hu⟩ : ∃ u, u = wt1 x := ⟨_, rfl⟩
  rw [← hu]
  replace hu := hid hu
  by_cases h0 : u = 0
  case neg =>
    have E := hid (bu_wait (cs := cs) ht.out.symm (show wt1 x ≠ 0 by rw [← hu.out]; exact h0))
    rw [← hu.out] at E
    have V2 := hid (cr_row (new := #[.int .i64 u, .int .i64 0, .int .i64 0, .int .i64 0, .int .i64 0, .bool false]) V.out)
    have B2 := hid (cr_below (L := #[.int .i64 u, .int .i64 0, .int .i64 0, .int .i64 0, .int .i64 0, .bool false]) BB.out LG.out)
    go_wp2_with (first | refine buildC rfl 57 _ rfl _ (cr_e0 (c := u) (by simp [Act.eval])) ?_ | refine wpList_store_row rfl 57 _ _ rfl g #[.int .i64 u, .int .i64 0, .int .i64 0, .int .i64 0, .int .i64 0, .bool false] rfl rfl 57 _ V.out (cr_info _ rfl) rfl (cr_one _ _ _ _ _ _) ?_)
    exact bodyPost_ret (v := .agg #[.int .i64 u, .int .i64 0, .int .i64 0, .int .i64 0, .int .i64 0, .bool false]) (results_cell_row rfl _ _ g 57 _ _ _ rfl V2.out Try.underlying57 rfl (by kernel_rfl)) rfl ⟨by have e := hR.out.trans E.out; rw [e]; first | done | rfl, B2.out⟩
  subst h0
  obtain ⟨⟨b0, b1, b2, b3, b4, b5, b6⟩, -⟩ := v7_facts VB.out
  have HP := hid (vF_ok ht.out.symm).2.2
  go_wp2_with fail
  clear b0 b1 b2 b3 b4 b5 b6
  refine (s8f _ cs x.c _ H.out HP.out).mono ?_
  rintro e w3 ⟨rfl, hB⟩
  replace H := hid (H.out.below hB)
  replace VB := hid (var_below hB VB.out)
  replace V := hid (var_below hB V.out)
  replace BB := hid (BB.out.trans (hB.mono BB.out.size))
  clear hB
  by_cases hh : hasN cs x.c = true
  case neg =>
    have E := hid (bu_none ht.out.symm hu.out.symm (by simpa using hh))
    rw [show fdI cs x.c = -1 by rw [fdI, if_neg hh]]
    replace hh := hid hh
    have V2 := hid (cr_row (new := #[.int .i64 4, .int .i64 0, .int .i64 0, .int .i64 0, .int .i64 0, .bool false]) V.out)
    have B2 := hid (cr_below (L := #[.int .i64 4, .int .i64 0, .int .i64 0, .int .i64 0, .int .i64 0, .bool false]) BB.out LG.out)
    go_wp2_with (first | refine buildC rfl 57 _ rfl _ (cr_e0 (c := 4) (by simp [Act.eval])) ?_ | refine wpList_store_row rfl 57 _ _ rfl g #[.int .i64 4, .int .i64 0, .int .i64 0, .int .i64 0, .int .i64 0, .bool false] rfl rfl 57 _ V.out (cr_info _ rfl) rfl (cr_one _ _ _ _ _ _) ?_)
    exact bodyPost_ret (v := .agg #[.int .i64 4, .int .i64 0, .int .i64 0, .int .i64 0, .int .i64 0, .bool false]) (results_cell_row rfl _ _ g 57 _ _ _ rfl V2.out Try.underlying57 rfl (by kernel_rfl)) rfl ⟨by have e := hR.out.trans E.out; rw [e]; first | done | rfl, B2.out⟩
  obtain ⟨hk, -⟩ := hasN_yes hh
  rw [show fdI cs x.c = (lb cs x.c : Int) by rw [fdI, if_pos hh]]
  obtain ⟨X, hX⟩ : ∃ X, X = cs[lb cs x.c] := ⟨_, rfl⟩
  have XD : X = cs.getD (lb cs x.c) zC := by rw [hX]; simp [List.getD_eq_getElem?_getD, hk]
  have EM := hid fun q => bu_made ht.out.symm hu.out.symm hh XD q
  have ES := hid fun q => bu_same ht.out.symm hu.out.symm hh XD q
  obtain ⟨a', cap', e, -, -, hcs⟩ := H.out.parts
  cases e
  obtain ⟨b, o, rfl, q1⟩ := hcs _ hk
  rw [← hX] at q1
  obtain ⟨c0, c1, c2, c3⟩ := c_cells q1
  have I1 := idx_ci b o cs.length cap _ hk
  obtain ⟨k, hkk⟩ : ∃ k, k = lb cs x.c := ⟨_, rfl⟩
  rw [← hkk] at c0 c1 c2 c3 I1 ⊢
  have k0 : (0 : Int) ≤ (k : Int) := by omega
  have k1 : (k : Int) < (cs.length : Int) := by omega
  clear q1 hcs hX XD hk hh H
  replace hkk := hid hkk
  have VG3 := hid (Array.getElem?_eq_some_iff.1 V.out).1
  have VT := hid (heap_alloc_new w3 (.cells #[.int .i64 0, .int .i64 X.n, .int .i64 X.i, .int .i64 X.s, .int .i64 X.m, .bool false] 57))
  have hB := below_alloc1 w3 (.cells #[.int .i64 0, .int .i64 X.n, .int .i64 X.i, .int .i64 X.s, .int .i64 X.m, .bool false] 57)
  replace VB := hid (var_below hB VB.out)
  replace V := hid (var_below hB V.out)
  replace BB := hid (BB.out.trans (hB.mono BB.out.size))
  go_wp2_with (refine buildC rfl 57 _ rfl _ (cr_e1 (n := X.n) (i := X.i) (s := X.s) (m := X.m) (by simp [Act.eval])) ?_)
  replace c0 := cell_kept hB c0
  replace c1 := cell_kept hB c1
  replace c2 := cell_kept hB c2
  replace c3 := cell_kept hB c3
  clear hB
  generalize w3.alloc (.cells #[.int .i64 0, .int .i64 X.n, .int .i64 X.i, .int .i64 X.s, .int .i64 X.m, .bool false] 57) = w4 at *
  obtain ⟨gt, hgt⟩ : ∃ g, g = w3.heap.size := ⟨_, rfl⟩
  rw [← hgt] at VT ⊢
  obtain ⟨⟨b0, b1, b2, b3, b4, b5, b6⟩, -⟩ := v7_facts VB.out
  have GTG := hid (show g ≠ gt ∧ w.heap.size ≤ gt by have := hgt; have h1 := VG3.out; have h2 := LG.out; omega)
  replace hgt := hid hgt
  by_cases qa : x.a = 3
  · by_cases qs : X.s = 1
    · by_cases qi : X.i = x.d
      · have E := hid (EM.out ⟨qa, qs, qi⟩)
        have na : (x.a == 3) = true := by simp [qa]
        have ns : (X.s == 1) = true := by simp [qs]
        have ni : (X.i == x.d) = true := by simp [qi]
        replace qa := hid qa
        replace qs := hid qs
        replace qi := hid qi
        clear EM ES
        refine wp_region_held_drew (S := fun w' => Below w4.heap.size w4 w') (by kernel_rfl) (Below.refl _ _).drew (fun hH => ?_)
        generalize w4.drew = wd at hH ⊢
        refine wpAnyH_take (i := 0) (v := .pointer (some ⟨gb, 0, none⟩)) (by simp only [List.getElem?_toArray, List.getElem?_cons_zero]; rfl) (by kernel_rfl) (by kernel_rfl) (by kernel_rfl) (by intro _ _ _ h; exact h) (Or.inl ⟨by rfl, fun w hS => by go_simp⟩) hH ?_
        simp only [Act.put, List.setIfInBounds_toArray, List.set_cons_zero, List.set_cons_succ]
        refine wpAnyH_take (i := 1) (v := .int .i64 x.a) (by simp only [List.getElem?_toArray, List.getElem?_cons_succ, List.getElem?_cons_zero]; rfl) (by kernel_rfl) (by kernel_rfl) (by kernel_rfl) (by intro _ _ _ h; exact h) (Or.inl ⟨by rfl, fun w hS => by (have y := cell_kept hS b0; go_simp)⟩) hH ?_
        simp only [Act.put, List.setIfInBounds_toArray, List.set_cons_zero, List.set_cons_succ]
        refine wpAnyH_take (i := 2) (v := .bool true) (by simp only [List.getElem?_toArray, List.getElem?_cons_succ, List.getElem?_cons_zero]; rfl) (by kernel_rfl) (by kernel_rfl) (by kernel_rfl) (by intro _ _ _ h; exact h) (Or.inl ⟨by rfl, fun w hS => by go_simp⟩) hH ?_
        simp only [Act.put, List.setIfInBounds_toArray, List.set_cons_zero, List.set_cons_succ]
        refine wpAnyH_take (i := 3) (v := .bool true) (by simp only [List.getElem?_toArray, List.getElem?_cons_succ, List.getElem?_cons_zero]; rfl) (by kernel_rfl) (by kernel_rfl) (by kernel_rfl) (by intro _ _ _ h; exact h) (Or.inl ⟨by rfl, fun w hS => by go_simp⟩) hH ?_
        simp only [Act.put, List.setIfInBounds_toArray, List.set_cons_zero, List.set_cons_succ]
        refine wpAnyH_take (i := 4) (v := .slice (some ⟨b, o, none⟩) cs.length cap) (by simp only [List.getElem?_toArray, List.getElem?_cons_succ, List.getElem?_cons_zero]; rfl) (by kernel_rfl) (by kernel_rfl) (by kernel_rfl) (by intro _ _ _ h; exact h) (Or.inl ⟨by rfl, fun w hS => by go_simp⟩) hH ?_
        simp only [Act.put, List.setIfInBounds_toArray, List.set_cons_zero, List.set_cons_succ]
        refine wpAnyH_take (i := 5) (v := .int .i64 (k : Int)) (by simp only [List.getElem?_toArray, List.getElem?_cons_succ, List.getElem?_cons_zero]; rfl) (by kernel_rfl) (by kernel_rfl) (by kernel_rfl) (by intro _ _ _ h; exact h) (Or.inl ⟨by rfl, fun w hS => by go_simp⟩) hH ?_
        simp only [Act.put, List.setIfInBounds_toArray, List.set_cons_zero, List.set_cons_succ]
        refine wpAnyH_take (i := 6) (v := .pointer (some ⟨b, o + k * 4, none⟩)) (by simp only [List.getElem?_toArray, List.getElem?_cons_succ, List.getElem?_cons_zero]; rfl) (by kernel_rfl) (by kernel_rfl) (by kernel_rfl) (by intro _ _ _ h; exact h) (Or.inl ⟨by rfl, fun w hS => by go_simp⟩) hH ?_
        simp only [Act.put, List.setIfInBounds_toArray, List.set_cons_zero, List.set_cons_succ]
        refine wpAnyH_take (i := 7) (v := .pointer (some ⟨b, o + k * 4 + 2, none⟩)) (by simp only [List.getElem?_toArray, List.getElem?_cons_succ, List.getElem?_cons_zero]; rfl) (by kernel_rfl) (by kernel_rfl) (by kernel_rfl) (by intro _ _ _ h; exact h) (Or.inl ⟨by rfl, fun w hS => by go_simp⟩) hH ?_
        simp only [Act.put, List.setIfInBounds_toArray, List.set_cons_zero, List.set_cons_succ]
        refine wpAnyH_take (i := 8) (v := .int .i64 X.s) (by simp only [List.getElem?_toArray, List.getElem?_cons_succ, List.getElem?_cons_zero]; rfl) (by kernel_rfl) (by kernel_rfl) (by kernel_rfl) (by intro _ _ _ h; exact h) (Or.inl ⟨by rfl, fun w hS => by (have y := cell_kept hS c2; go_simp)⟩) hH ?_
        simp only [Act.put, List.setIfInBounds_toArray, List.set_cons_zero, List.set_cons_succ]
        refine wpAnyH_take (i := 9) (v := .bool true) (by simp only [List.getElem?_toArray, List.getElem?_cons_succ, List.getElem?_cons_zero]; rfl) (by kernel_rfl) (by kernel_rfl) (by kernel_rfl) (by intro _ _ _ h; exact h) (Or.inl ⟨by rfl, fun w hS => by go_simp⟩) hH ?_
        simp only [Act.put, List.setIfInBounds_toArray, List.set_cons_zero, List.set_cons_succ]
        refine wpAnyH_take (i := 10) (v := .bool true) (by simp only [List.getElem?_toArray, List.getElem?_cons_succ, List.getElem?_cons_zero]; rfl) (by kernel_rfl) (by kernel_rfl) (by kernel_rfl) (by intro _ _ _ h; exact h) (Or.inl ⟨by rfl, fun w hS => by go_simp⟩) hH ?_
        simp only [Act.put, List.setIfInBounds_toArray, List.set_cons_zero, List.set_cons_succ]
        refine wpAnyH_take (i := 11) (v := .bool true) (by simp only [List.getElem?_toArray, List.getElem?_cons_succ, List.getElem?_cons_zero]; rfl) (by kernel_rfl) (by kernel_rfl) (by kernel_rfl) (by intro _ _ _ h; exact h) (Or.inl ⟨by rfl, fun w hS => by go_simp⟩) hH ?_
        simp only [Act.put, List.setIfInBounds_toArray, List.set_cons_zero, List.set_cons_succ]
        refine wpAnyH_take (i := 12) (v := .slice (some ⟨b, o, none⟩) cs.length cap) (by simp only [List.getElem?_toArray, List.getElem?_cons_succ, List.getElem?_cons_zero]; rfl) (by kernel_rfl) (by kernel_rfl) (by kernel_rfl) (by intro _ _ _ h; exact h) (Or.inl ⟨by rfl, fun w hS => by go_simp⟩) hH ?_
        simp only [Act.put, List.setIfInBounds_toArray, List.set_cons_zero, List.set_cons_succ]
        refine wpAnyH_take (i := 13) (v := .int .i64 (k : Int)) (by simp only [List.getElem?_toArray, List.getElem?_cons_succ, List.getElem?_cons_zero]; rfl) (by kernel_rfl) (by kernel_rfl) (by kernel_rfl) (by intro _ _ _ h; exact h) (Or.inl ⟨by rfl, fun w hS => by go_simp⟩) hH ?_
        simp only [Act.put, List.setIfInBounds_toArray, List.set_cons_zero, List.set_cons_succ]
        refine wpAnyH_take (i := 14) (v := .pointer (some ⟨b, o + k * 4, none⟩)) (by simp only [List.getElem?_toArray, List.getElem?_cons_succ, List.getElem?_cons_zero]; rfl) (by kernel_rfl) (by kernel_rfl) (by kernel_rfl) (by intro _ _ _ h; exact h) (Or.inl ⟨by rfl, fun w hS => by go_simp⟩) hH ?_
        simp only [Act.put, List.setIfInBounds_toArray, List.set_cons_zero, List.set_cons_succ]
        refine wpAnyH_take (i := 15) (v := .pointer (some ⟨b, o + k * 4 + 1, none⟩)) (by simp only [List.getElem?_toArray, List.getElem?_cons_succ, List.getElem?_cons_zero]; rfl) (by kernel_rfl) (by kernel_rfl) (by kernel_rfl) (by intro _ _ _ h; exact h) (Or.inl ⟨by rfl, fun w hS => by go_simp⟩) hH ?_
        simp only [Act.put, List.setIfInBounds_toArray, List.set_cons_zero, List.set_cons_succ]
        refine wpAnyH_take (i := 16) (v := .int .i64 X.i) (by simp only [List.getElem?_toArray, List.getElem?_cons_succ, List.getElem?_cons_zero]; rfl) (by kernel_rfl) (by kernel_rfl) (by kernel_rfl) (by intro _ _ _ h; exact h) (Or.inl ⟨by rfl, fun w hS => by (have y := cell_kept hS c1; go_simp)⟩) hH ?_
        simp only [Act.put, List.setIfInBounds_toArray, List.set_cons_zero, List.set_cons_succ]
        refine wpAnyH_take (i := 17) (v := .pointer (some ⟨gb, 3, none⟩)) (by simp only [List.getElem?_toArray, List.getElem?_cons_succ, List.getElem?_cons_zero]; rfl) (by kernel_rfl) (by kernel_rfl) (by kernel_rfl) (by intro _ _ _ h; exact h) (Or.inl ⟨by rfl, fun w hS => by go_simp⟩) hH ?_
        simp only [Act.put, List.setIfInBounds_toArray, List.set_cons_zero, List.set_cons_succ]
        refine wpAnyH_take (i := 18) (v := .int .i64 x.d) (by simp only [List.getElem?_toArray, List.getElem?_cons_succ, List.getElem?_cons_zero]; rfl) (by kernel_rfl) (by kernel_rfl) (by kernel_rfl) (by intro _ _ _ h; exact h) (Or.inl ⟨by rfl, fun w hS => by (have y := cell_kept hS b3; go_simp)⟩) hH ?_
        simp only [Act.put, List.setIfInBounds_toArray, List.set_cons_zero, List.set_cons_succ]
        refine wpAnyH_take (i := 19) (v := .bool true) (by simp only [List.getElem?_toArray, List.getElem?_cons_succ, List.getElem?_cons_zero]; rfl) (by kernel_rfl) (by kernel_rfl) (by kernel_rfl) (by intro _ _ _ h; exact h) (Or.inl ⟨by rfl, fun w hS => by go_simp⟩) hH ?_
        simp only [Act.put, List.setIfInBounds_toArray, List.set_cons_zero, List.set_cons_succ]
        refine wpAnyH_take (i := 20) (v := .bool true) (by simp only [List.getElem?_toArray, List.getElem?_cons_succ, List.getElem?_cons_zero]; rfl) (by kernel_rfl) (by kernel_rfl) (by kernel_rfl) (by intro _ _ _ h; exact h) (Or.inl ⟨by rfl, fun w hS => by go_simp⟩) hH ?_
        simp only [Act.put, List.setIfInBounds_toArray, List.set_cons_zero, List.set_cons_succ]
        refine wpAnyH_done (by kernel_rfl) ?_ _
        replace V := hid (var_below hH V.out)
        replace VT := hid (var_below hH VT.out)
        replace BB := hid (BB.out.trans (hH.mono BB.out.size))
        clear hH c0 c1 c2 c3 b0 b1 b2 b3 b4 b5 b6 VB I1
        obtain ⟨⟨u0, u1, u2, u3, u4, u5⟩, f0, f1, f2, f3, f4, f5⟩ := v6_facts VT.out
        have VL := hid (show ((wd.setCell ⟨gt, 3, none⟩ (.int .i64 2)).setCell ⟨gt, 5, none⟩ (.bool true)).heap[gt]? = some (.cells #[.int .i64 0, .int .i64 X.n, .int .i64 X.i, .int .i64 2, .int .i64 X.m, .bool true] 57) by simpa using heap_setCell_same _ gt 5 _ _ (.bool true) (heap_setCell_same wd gt 3 _ _ (.int .i64 2) VT.out))
        have VS := hid (var_setotherC (k := gt) (i := 5) (x := .bool true) (var_setotherC (k := gt) (i := 3) (x := .int .i64 2) V.out GTG.out.1) GTG.out.1)
        have BS := hid ((BB.out.setCell (p := ⟨gt, 3, none⟩) GTG.out.2 (.int .i64 2)).setCell (p := ⟨gt, 5, none⟩) GTG.out.2 (.bool true))
        have V2 := hid (cr_row (new := #[.int .i64 0, .int .i64 X.n, .int .i64 X.i, .int .i64 2, .int .i64 X.m, .bool true]) VS.out)
        have B2 := hid (cr_below (L := #[.int .i64 0, .int .i64 X.n, .int .i64 X.i, .int .i64 2, .int .i64 X.m, .bool true]) BS.out LG.out)
        go_wp2_with (first | refine wpList_load_row rfl 57 _ rfl gt rfl 57 #[.int .i64 0, .int .i64 X.n, .int .i64 X.i, .int .i64 2, .int .i64 X.m, .bool true] _ _ VL.out Try.underlying57 rfl (cr_info _ rfl) ?_ | refine wpList_store_row rfl 57 _ _ rfl g #[.int .i64 0, .int .i64 X.n, .int .i64 X.i, .int .i64 2, .int .i64 X.m, .bool true] rfl rfl 57 _ VS.out (cr_info _ rfl) rfl (cr_one _ _ _ _ _ _) ?_)
        exact bodyPost_ret (v := .agg #[.int .i64 0, .int .i64 X.n, .int .i64 X.i, .int .i64 2, .int .i64 X.m, .bool true]) (results_cell_row rfl _ _ g 57 _ _ _ rfl V2.out Try.underlying57 rfl (by kernel_rfl)) rfl ⟨by have e := hR.out.trans E.out; rw [e]; first | done | rfl, B2.out⟩
      · have E := hid (ES.out (fun q => qi q.2.2))
        have na : (x.a == 3) = true := by simp [qa]
        have ns : (X.s == 1) = true := by simp [qs]
        have ni : (X.i == x.d) = false := by simp [qi]
        replace qa := hid qa
        replace qs := hid qs
        replace qi := hid qi
        clear EM ES
        refine wp_region_held_drew (S := fun w' => Below w4.heap.size w4 w') (by kernel_rfl) (Below.refl _ _).drew (fun hH => ?_)
        generalize w4.drew = wd at hH ⊢
        refine wpAnyH_take (i := 0) (v := .pointer (some ⟨gb, 0, none⟩)) (by simp only [List.getElem?_toArray, List.getElem?_cons_zero]; rfl) (by kernel_rfl) (by kernel_rfl) (by kernel_rfl) (by intro _ _ _ h; exact h) (Or.inl ⟨by rfl, fun w hS => by go_simp⟩) hH ?_
        simp only [Act.put, List.setIfInBounds_toArray, List.set_cons_zero, List.set_cons_succ]
        refine wpAnyH_take (i := 1) (v := .int .i64 x.a) (by simp only [List.getElem?_toArray, List.getElem?_cons_succ, List.getElem?_cons_zero]; rfl) (by kernel_rfl) (by kernel_rfl) (by kernel_rfl) (by intro _ _ _ h; exact h) (Or.inl ⟨by rfl, fun w hS => by (have y := cell_kept hS b0; go_simp)⟩) hH ?_
        simp only [Act.put, List.setIfInBounds_toArray, List.set_cons_zero, List.set_cons_succ]
        refine wpAnyH_take (i := 2) (v := .bool true) (by simp only [List.getElem?_toArray, List.getElem?_cons_succ, List.getElem?_cons_zero]; rfl) (by kernel_rfl) (by kernel_rfl) (by kernel_rfl) (by intro _ _ _ h; exact h) (Or.inl ⟨by rfl, fun w hS => by go_simp⟩) hH ?_
        simp only [Act.put, List.setIfInBounds_toArray, List.set_cons_zero, List.set_cons_succ]
        refine wpAnyH_take (i := 3) (v := .bool true) (by simp only [List.getElem?_toArray, List.getElem?_cons_succ, List.getElem?_cons_zero]; rfl) (by kernel_rfl) (by kernel_rfl) (by kernel_rfl) (by intro _ _ _ h; exact h) (Or.inl ⟨by rfl, fun w hS => by go_simp⟩) hH ?_
        simp only [Act.put, List.setIfInBounds_toArray, List.set_cons_zero, List.set_cons_succ]
        refine wpAnyH_take (i := 4) (v := .slice (some ⟨b, o, none⟩) cs.length cap) (by simp only [List.getElem?_toArray, List.getElem?_cons_succ, List.getElem?_cons_zero]; rfl) (by kernel_rfl) (by kernel_rfl) (by kernel_rfl) (by intro _ _ _ h; exact h) (Or.inl ⟨by rfl, fun w hS => by go_simp⟩) hH ?_
        simp only [Act.put, List.setIfInBounds_toArray, List.set_cons_zero, List.set_cons_succ]
        refine wpAnyH_take (i := 5) (v := .int .i64 (k : Int)) (by simp only [List.getElem?_toArray, List.getElem?_cons_succ, List.getElem?_cons_zero]; rfl) (by kernel_rfl) (by kernel_rfl) (by kernel_rfl) (by intro _ _ _ h; exact h) (Or.inl ⟨by rfl, fun w hS => by go_simp⟩) hH ?_
        simp only [Act.put, List.setIfInBounds_toArray, List.set_cons_zero, List.set_cons_succ]
        refine wpAnyH_take (i := 6) (v := .pointer (some ⟨b, o + k * 4, none⟩)) (by simp only [List.getElem?_toArray, List.getElem?_cons_succ, List.getElem?_cons_zero]; rfl) (by kernel_rfl) (by kernel_rfl) (by kernel_rfl) (by intro _ _ _ h; exact h) (Or.inl ⟨by rfl, fun w hS => by go_simp⟩) hH ?_
        simp only [Act.put, List.setIfInBounds_toArray, List.set_cons_zero, List.set_cons_succ]
        refine wpAnyH_take (i := 7) (v := .pointer (some ⟨b, o + k * 4 + 2, none⟩)) (by simp only [List.getElem?_toArray, List.getElem?_cons_succ, List.getElem?_cons_zero]; rfl) (by kernel_rfl) (by kernel_rfl) (by kernel_rfl) (by intro _ _ _ h; exact h) (Or.inl ⟨by rfl, fun w hS => by go_simp⟩) hH ?_
        simp only [Act.put, List.setIfInBounds_toArray, List.set_cons_zero, List.set_cons_succ]
        refine wpAnyH_take (i := 8) (v := .int .i64 X.s) (by simp only [List.getElem?_toArray, List.getElem?_cons_succ, List.getElem?_cons_zero]; rfl) (by kernel_rfl) (by kernel_rfl) (by kernel_rfl) (by intro _ _ _ h; exact h) (Or.inl ⟨by rfl, fun w hS => by (have y := cell_kept hS c2; go_simp)⟩) hH ?_
        simp only [Act.put, List.setIfInBounds_toArray, List.set_cons_zero, List.set_cons_succ]
        refine wpAnyH_take (i := 9) (v := .bool true) (by simp only [List.getElem?_toArray, List.getElem?_cons_succ, List.getElem?_cons_zero]; rfl) (by kernel_rfl) (by kernel_rfl) (by kernel_rfl) (by intro _ _ _ h; exact h) (Or.inl ⟨by rfl, fun w hS => by go_simp⟩) hH ?_
        simp only [Act.put, List.setIfInBounds_toArray, List.set_cons_zero, List.set_cons_succ]
        refine wpAnyH_take (i := 10) (v := .bool true) (by simp only [List.getElem?_toArray, List.getElem?_cons_succ, List.getElem?_cons_zero]; rfl) (by kernel_rfl) (by kernel_rfl) (by kernel_rfl) (by intro _ _ _ h; exact h) (Or.inl ⟨by rfl, fun w hS => by go_simp⟩) hH ?_
        simp only [Act.put, List.setIfInBounds_toArray, List.set_cons_zero, List.set_cons_succ]
        refine wpAnyH_take (i := 11) (v := .bool true) (by simp only [List.getElem?_toArray, List.getElem?_cons_succ, List.getElem?_cons_zero]; rfl) (by kernel_rfl) (by kernel_rfl) (by kernel_rfl) (by intro _ _ _ h; exact h) (Or.inl ⟨by rfl, fun w hS => by go_simp⟩) hH ?_
        simp only [Act.put, List.setIfInBounds_toArray, List.set_cons_zero, List.set_cons_succ]
        refine wpAnyH_take (i := 12) (v := .slice (some ⟨b, o, none⟩) cs.length cap) (by simp only [List.getElem?_toArray, List.getElem?_cons_succ, List.getElem?_cons_zero]; rfl) (by kernel_rfl) (by kernel_rfl) (by kernel_rfl) (by intro _ _ _ h; exact h) (Or.inl ⟨by rfl, fun w hS => by go_simp⟩) hH ?_
        simp only [Act.put, List.setIfInBounds_toArray, List.set_cons_zero, List.set_cons_succ]
        refine wpAnyH_take (i := 13) (v := .int .i64 (k : Int)) (by simp only [List.getElem?_toArray, List.getElem?_cons_succ, List.getElem?_cons_zero]; rfl) (by kernel_rfl) (by kernel_rfl) (by kernel_rfl) (by intro _ _ _ h; exact h) (Or.inl ⟨by rfl, fun w hS => by go_simp⟩) hH ?_
        simp only [Act.put, List.setIfInBounds_toArray, List.set_cons_zero, List.set_cons_succ]
        refine wpAnyH_take (i := 14) (v := .pointer (some ⟨b, o + k * 4, none⟩)) (by simp only [List.getElem?_toArray, List.getElem?_cons_succ, List.getElem?_cons_zero]; rfl) (by kernel_rfl) (by kernel_rfl) (by kernel_rfl) (by intro _ _ _ h; exact h) (Or.inl ⟨by rfl, fun w hS => by go_simp⟩) hH ?_
        simp only [Act.put, List.setIfInBounds_toArray, List.set_cons_zero, List.set_cons_succ]
        refine wpAnyH_take (i := 15) (v := .pointer (some ⟨b, o + k * 4 + 1, none⟩)) (by simp only [List.getElem?_toArray, List.getElem?_cons_succ, List.getElem?_cons_zero]; rfl) (by kernel_rfl) (by kernel_rfl) (by kernel_rfl) (by intro _ _ _ h; exact h) (Or.inl ⟨by rfl, fun w hS => by go_simp⟩) hH ?_
        simp only [Act.put, List.setIfInBounds_toArray, List.set_cons_zero, List.set_cons_succ]
        refine wpAnyH_take (i := 16) (v := .int .i64 X.i) (by simp only [List.getElem?_toArray, List.getElem?_cons_succ, List.getElem?_cons_zero]; rfl) (by kernel_rfl) (by kernel_rfl) (by kernel_rfl) (by intro _ _ _ h; exact h) (Or.inl ⟨by rfl, fun w hS => by (have y := cell_kept hS c1; go_simp)⟩) hH ?_
        simp only [Act.put, List.setIfInBounds_toArray, List.set_cons_zero, List.set_cons_succ]
        refine wpAnyH_take (i := 17) (v := .pointer (some ⟨gb, 3, none⟩)) (by simp only [List.getElem?_toArray, List.getElem?_cons_succ, List.getElem?_cons_zero]; rfl) (by kernel_rfl) (by kernel_rfl) (by kernel_rfl) (by intro _ _ _ h; exact h) (Or.inl ⟨by rfl, fun w hS => by go_simp⟩) hH ?_
        simp only [Act.put, List.setIfInBounds_toArray, List.set_cons_zero, List.set_cons_succ]
        refine wpAnyH_take (i := 18) (v := .int .i64 x.d) (by simp only [List.getElem?_toArray, List.getElem?_cons_succ, List.getElem?_cons_zero]; rfl) (by kernel_rfl) (by kernel_rfl) (by kernel_rfl) (by intro _ _ _ h; exact h) (Or.inl ⟨by rfl, fun w hS => by (have y := cell_kept hS b3; go_simp)⟩) hH ?_
        simp only [Act.put, List.setIfInBounds_toArray, List.set_cons_zero, List.set_cons_succ]
        refine wpAnyH_take (i := 19) (v := .bool false) (by simp only [List.getElem?_toArray, List.getElem?_cons_succ, List.getElem?_cons_zero]; rfl) (by kernel_rfl) (by kernel_rfl) (by kernel_rfl) (by intro _ _ _ h; exact h) (Or.inl ⟨by rfl, fun w hS => by go_simp⟩) hH ?_
        simp only [Act.put, List.setIfInBounds_toArray, List.set_cons_zero, List.set_cons_succ]
        refine wpAnyH_take (i := 20) (v := .bool false) (by simp only [List.getElem?_toArray, List.getElem?_cons_succ, List.getElem?_cons_zero]; rfl) (by kernel_rfl) (by kernel_rfl) (by kernel_rfl) (by intro _ _ _ h; exact h) (Or.inl ⟨by rfl, fun w hS => by go_simp⟩) hH ?_
        simp only [Act.put, List.setIfInBounds_toArray, List.set_cons_zero, List.set_cons_succ]
        refine wpAnyH_done (by kernel_rfl) ?_ _
        replace V := hid (var_below hH V.out)
        replace VT := hid (var_below hH VT.out)
        replace BB := hid (BB.out.trans (hH.mono BB.out.size))
        clear hH c0 c1 c2 c3 b0 b1 b2 b3 b4 b5 b6 VB I1
        have VL := VT
        have V2 := hid (cr_row (new := #[.int .i64 0, .int .i64 X.n, .int .i64 X.i, .int .i64 X.s, .int .i64 X.m, .bool false]) V.out)
        have B2 := hid (cr_below (L := #[.int .i64 0, .int .i64 X.n, .int .i64 X.i, .int .i64 X.s, .int .i64 X.m, .bool false]) BB.out LG.out)
        go_wp2_with (first | refine wpList_load_row rfl 57 _ rfl gt rfl 57 #[.int .i64 0, .int .i64 X.n, .int .i64 X.i, .int .i64 X.s, .int .i64 X.m, .bool false] _ _ VL.out Try.underlying57 rfl (cr_info _ rfl) ?_ | refine wpList_store_row rfl 57 _ _ rfl g #[.int .i64 0, .int .i64 X.n, .int .i64 X.i, .int .i64 X.s, .int .i64 X.m, .bool false] rfl rfl 57 _ V.out (cr_info _ rfl) rfl (cr_one _ _ _ _ _ _) ?_)
        exact bodyPost_ret (v := .agg #[.int .i64 0, .int .i64 X.n, .int .i64 X.i, .int .i64 X.s, .int .i64 X.m, .bool false]) (results_cell_row rfl _ _ g 57 _ _ _ rfl V2.out Try.underlying57 rfl (by kernel_rfl)) rfl ⟨by have e := hR.out.trans E.out; rw [e]; first | done | rfl, B2.out⟩
    · have E := hid (ES.out (fun q => qs q.2.1))
      have na : (x.a == 3) = true := by simp [qa]
      have ns : (X.s == 1) = false := by simp [qs]
      replace qa := hid qa
      replace qs := hid qs
      clear EM ES
      refine wp_region_held_drew (S := fun w' => Below w4.heap.size w4 w') (by kernel_rfl) (Below.refl _ _).drew (fun hH => ?_)
      generalize w4.drew = wd at hH ⊢
      refine wpAnyH_take (i := 0) (v := .pointer (some ⟨gb, 0, none⟩)) (by simp only [List.getElem?_toArray, List.getElem?_cons_zero]; rfl) (by kernel_rfl) (by kernel_rfl) (by kernel_rfl) (by intro _ _ _ h; exact h) (Or.inl ⟨by rfl, fun w hS => by go_simp⟩) hH ?_
      simp only [Act.put, List.setIfInBounds_toArray, List.set_cons_zero, List.set_cons_succ]
      refine wpAnyH_take (i := 1) (v := .int .i64 x.a) (by simp only [List.getElem?_toArray, List.getElem?_cons_succ, List.getElem?_cons_zero]; rfl) (by kernel_rfl) (by kernel_rfl) (by kernel_rfl) (by intro _ _ _ h; exact h) (Or.inl ⟨by rfl, fun w hS => by (have y := cell_kept hS b0; go_simp)⟩) hH ?_
      simp only [Act.put, List.setIfInBounds_toArray, List.set_cons_zero, List.set_cons_succ]
      refine wpAnyH_take (i := 2) (v := .bool true) (by simp only [List.getElem?_toArray, List.getElem?_cons_succ, List.getElem?_cons_zero]; rfl) (by kernel_rfl) (by kernel_rfl) (by kernel_rfl) (by intro _ _ _ h; exact h) (Or.inl ⟨by rfl, fun w hS => by go_simp⟩) hH ?_
      simp only [Act.put, List.setIfInBounds_toArray, List.set_cons_zero, List.set_cons_succ]
      refine wpAnyH_take (i := 3) (v := .bool true) (by simp only [List.getElem?_toArray, List.getElem?_cons_succ, List.getElem?_cons_zero]; rfl) (by kernel_rfl) (by kernel_rfl) (by kernel_rfl) (by intro _ _ _ h; exact h) (Or.inl ⟨by rfl, fun w hS => by go_simp⟩) hH ?_
      simp only [Act.put, List.setIfInBounds_toArray, List.set_cons_zero, List.set_cons_succ]
      refine wpAnyH_take (i := 4) (v := .slice (some ⟨b, o, none⟩) cs.length cap) (by simp only [List.getElem?_toArray, List.getElem?_cons_succ, List.getElem?_cons_zero]; rfl) (by kernel_rfl) (by kernel_rfl) (by kernel_rfl) (by intro _ _ _ h; exact h) (Or.inl ⟨by rfl, fun w hS => by go_simp⟩) hH ?_
      simp only [Act.put, List.setIfInBounds_toArray, List.set_cons_zero, List.set_cons_succ]
      refine wpAnyH_take (i := 5) (v := .int .i64 (k : Int)) (by simp only [List.getElem?_toArray, List.getElem?_cons_succ, List.getElem?_cons_zero]; rfl) (by kernel_rfl) (by kernel_rfl) (by kernel_rfl) (by intro _ _ _ h; exact h) (Or.inl ⟨by rfl, fun w hS => by go_simp⟩) hH ?_
      simp only [Act.put, List.setIfInBounds_toArray, List.set_cons_zero, List.set_cons_succ]
      refine wpAnyH_take (i := 6) (v := .pointer (some ⟨b, o + k * 4, none⟩)) (by simp only [List.getElem?_toArray, List.getElem?_cons_succ, List.getElem?_cons_zero]; rfl) (by kernel_rfl) (by kernel_rfl) (by kernel_rfl) (by intro _ _ _ h; exact h) (Or.inl ⟨by rfl, fun w hS => by go_simp⟩) hH ?_
      simp only [Act.put, List.setIfInBounds_toArray, List.set_cons_zero, List.set_cons_succ]
      refine wpAnyH_take (i := 7) (v := .pointer (some ⟨b, o + k * 4 + 2, none⟩)) (by simp only [List.getElem?_toArray, List.getElem?_cons_succ, List.getElem?_cons_zero]; rfl) (by kernel_rfl) (by kernel_rfl) (by kernel_rfl) (by intro _ _ _ h; exact h) (Or.inl ⟨by rfl, fun w hS => by go_simp⟩) hH ?_
      simp only [Act.put, List.setIfInBounds_toArray, List.set_cons_zero, List.set_cons_succ]
      refine wpAnyH_take (i := 8) (v := .int .i64 X.s) (by simp only [List.getElem?_toArray, List.getElem?_cons_succ, List.getElem?_cons_zero]; rfl) (by kernel_rfl) (by kernel_rfl) (by kernel_rfl) (by intro _ _ _ h; exact h) (Or.inl ⟨by rfl, fun w hS => by (have y := cell_kept hS c2; go_simp)⟩) hH ?_
      simp only [Act.put, List.setIfInBounds_toArray, List.set_cons_zero, List.set_cons_succ]
      refine wpAnyH_take (i := 9) (v := .bool false) (by simp only [List.getElem?_toArray, List.getElem?_cons_succ, List.getElem?_cons_zero]; rfl) (by kernel_rfl) (by kernel_rfl) (by kernel_rfl) (by intro _ _ _ h; exact h) (Or.inl ⟨by rfl, fun w hS => by go_simp⟩) hH ?_
      simp only [Act.put, List.setIfInBounds_toArray, List.set_cons_zero, List.set_cons_succ]
      refine wpAnyH_take (i := 10) (v := .bool false) (by simp only [List.getElem?_toArray, List.getElem?_cons_succ, List.getElem?_cons_zero]; rfl) (by kernel_rfl) (by kernel_rfl) (by kernel_rfl) (by intro _ _ _ h; exact h) (Or.inl ⟨by rfl, fun w hS => by go_simp⟩) hH ?_
      simp only [Act.put, List.setIfInBounds_toArray, List.set_cons_zero, List.set_cons_succ]
      refine wpAnyH_take (i := 11) (v := .bool false) (by simp only [List.getElem?_toArray, List.getElem?_cons_succ, List.getElem?_cons_zero]; rfl) (by kernel_rfl) (by kernel_rfl) (by kernel_rfl) (by intro _ _ _ h; exact h) (Or.inl ⟨by rfl, fun w hS => by go_simp⟩) hH ?_
      simp only [Act.put, List.setIfInBounds_toArray, List.set_cons_zero, List.set_cons_succ]
      refine wpAnyH_take (i := 12) (v := undef) (by simp only [List.getElem?_toArray, List.getElem?_cons_succ, List.getElem?_cons_zero]; rfl) (by kernel_rfl) (by kernel_rfl) (by kernel_rfl) (by intro _ _ _ h; exact h) (Or.inr ⟨by rfl, rfl⟩) hH ?_
      simp only [Act.put, List.setIfInBounds_toArray, List.set_cons_zero, List.set_cons_succ]
      refine wpAnyH_take (i := 13) (v := undef) (by simp only [List.getElem?_toArray, List.getElem?_cons_succ, List.getElem?_cons_zero]; rfl) (by kernel_rfl) (by kernel_rfl) (by kernel_rfl) (by intro _ _ _ h; exact h) (Or.inr ⟨by rfl, rfl⟩) hH ?_
      simp only [Act.put, List.setIfInBounds_toArray, List.set_cons_zero, List.set_cons_succ]
      refine wpAnyH_take (i := 14) (v := undef) (by simp only [List.getElem?_toArray, List.getElem?_cons_succ, List.getElem?_cons_zero]; rfl) (by kernel_rfl) (by kernel_rfl) (by kernel_rfl) (by intro _ _ _ h; exact h) (Or.inr ⟨by rfl, rfl⟩) hH ?_
      simp only [Act.put, List.setIfInBounds_toArray, List.set_cons_zero, List.set_cons_succ]
      refine wpAnyH_take (i := 15) (v := undef) (by simp only [List.getElem?_toArray, List.getElem?_cons_succ, List.getElem?_cons_zero]; rfl) (by kernel_rfl) (by kernel_rfl) (by kernel_rfl) (by intro _ _ _ h; exact h) (Or.inr ⟨by rfl, rfl⟩) hH ?_
      simp only [Act.put, List.setIfInBounds_toArray, List.set_cons_zero, List.set_cons_succ]
      refine wpAnyH_take (i := 16) (v := undef) (by simp only [List.getElem?_toArray, List.getElem?_cons_succ, List.getElem?_cons_zero]; rfl) (by kernel_rfl) (by kernel_rfl) (by kernel_rfl) (by intro _ _ _ h; exact h) (Or.inr ⟨by rfl, rfl⟩) hH ?_
      simp only [Act.put, List.setIfInBounds_toArray, List.set_cons_zero, List.set_cons_succ]
      refine wpAnyH_take (i := 17) (v := undef) (by simp only [List.getElem?_toArray, List.getElem?_cons_succ, List.getElem?_cons_zero]; rfl) (by kernel_rfl) (by kernel_rfl) (by kernel_rfl) (by intro _ _ _ h; exact h) (Or.inr ⟨by rfl, rfl⟩) hH ?_
      simp only [Act.put, List.setIfInBounds_toArray, List.set_cons_zero, List.set_cons_succ]
      refine wpAnyH_take (i := 18) (v := undef) (by simp only [List.getElem?_toArray, List.getElem?_cons_succ, List.getElem?_cons_zero]; rfl) (by kernel_rfl) (by kernel_rfl) (by kernel_rfl) (by intro _ _ _ h; exact h) (Or.inr ⟨by rfl, rfl⟩) hH ?_
      simp only [Act.put, List.setIfInBounds_toArray, List.set_cons_zero, List.set_cons_succ]
      refine wpAnyH_take (i := 19) (v := undef) (by simp only [List.getElem?_toArray, List.getElem?_cons_succ, List.getElem?_cons_zero]; rfl) (by kernel_rfl) (by kernel_rfl) (by kernel_rfl) (by intro _ _ _ h; exact h) (Or.inr ⟨by rfl, rfl⟩) hH ?_
      simp only [Act.put, List.setIfInBounds_toArray, List.set_cons_zero, List.set_cons_succ]
      refine wpAnyH_take (i := 20) (v := .bool false) (by simp only [List.getElem?_toArray, List.getElem?_cons_succ, List.getElem?_cons_zero]; rfl) (by kernel_rfl) (by kernel_rfl) (by kernel_rfl) (by intro _ _ _ h; exact h) (Or.inl ⟨by rfl, fun w hS => by go_simp⟩) hH ?_
      simp only [Act.put, List.setIfInBounds_toArray, List.set_cons_zero, List.set_cons_succ]
      refine wpAnyH_done (by kernel_rfl) ?_ _
      replace V := hid (var_below hH V.out)
      replace VT := hid (var_below hH VT.out)
      replace BB := hid (BB.out.trans (hH.mono BB.out.size))
      clear hH c0 c1 c2 c3 b0 b1 b2 b3 b4 b5 b6 VB I1
      have VL := VT
      have V2 := hid (cr_row (new := #[.int .i64 0, .int .i64 X.n, .int .i64 X.i, .int .i64 X.s, .int .i64 X.m, .bool false]) V.out)
      have B2 := hid (cr_below (L := #[.int .i64 0, .int .i64 X.n, .int .i64 X.i, .int .i64 X.s, .int .i64 X.m, .bool false]) BB.out LG.out)
      go_wp2_with (first | refine wpList_load_row rfl 57 _ rfl gt rfl 57 #[.int .i64 0, .int .i64 X.n, .int .i64 X.i, .int .i64 X.s, .int .i64 X.m, .bool false] _ _ VL.out Try.underlying57 rfl (cr_info _ rfl) ?_ | refine wpList_store_row rfl 57 _ _ rfl g #[.int .i64 0, .int .i64 X.n, .int .i64 X.i, .int .i64 X.s, .int .i64 X.m, .bool false] rfl rfl 57 _ V.out (cr_info _ rfl) rfl (cr_one _ _ _ _ _ _) ?_)
      exact bodyPost_ret (v := .agg #[.int .i64 0, .int .i64 X.n, .int .i64 X.i, .int .i64 X.s, .int .i64 X.m, .bool false]) (results_cell_row rfl _ _ g 57 _ _ _ rfl V2.out Try.underlying57 rfl (by kernel_rfl)) rfl ⟨by have e := hR.out.trans E.out; rw [e]; first | done | rfl, B2.out⟩
  · have E := hid (ES.out (fun q => qa q.1))
    have na : (x.a == 3) = false := by simp [qa]
    replace qa := hid qa
    clear EM ES
    refine wp_region_held_drew (S := fun w' => Below w4.heap.size w4 w') (by kernel_rfl) (Below.refl _ _).drew (fun hH => ?_)
    generalize w4.drew = wd at hH ⊢
    refine wpAnyH_take (i := 0) (v := .pointer (some ⟨gb, 0, none⟩)) (by simp only [List.getElem?_toArray, List.getElem?_cons_zero]; rfl) (by kernel_rfl) (by kernel_rfl) (by kernel_rfl) (by intro _ _ _ h; exact h) (Or.inl ⟨by rfl, fun w hS => by go_simp⟩) hH ?_
    simp only [Act.put, List.setIfInBounds_toArray, List.set_cons_zero, List.set_cons_succ]
    refine wpAnyH_take (i := 1) (v := .int .i64 x.a) (by simp only [List.getElem?_toArray, List.getElem?_cons_succ, List.getElem?_cons_zero]; rfl) (by kernel_rfl) (by kernel_rfl) (by kernel_rfl) (by intro _ _ _ h; exact h) (Or.inl ⟨by rfl, fun w hS => by (have y := cell_kept hS b0; go_simp)⟩) hH ?_
    simp only [Act.put, List.setIfInBounds_toArray, List.set_cons_zero, List.set_cons_succ]
    refine wpAnyH_take (i := 2) (v := .bool false) (by simp only [List.getElem?_toArray, List.getElem?_cons_succ, List.getElem?_cons_zero]; rfl) (by kernel_rfl) (by kernel_rfl) (by kernel_rfl) (by intro _ _ _ h; exact h) (Or.inl ⟨by rfl, fun w hS => by go_simp⟩) hH ?_
    simp only [Act.put, List.setIfInBounds_toArray, List.set_cons_zero, List.set_cons_succ]
    refine wpAnyH_take (i := 3) (v := .bool false) (by simp only [List.getElem?_toArray, List.getElem?_cons_succ, List.getElem?_cons_zero]; rfl) (by kernel_rfl) (by kernel_rfl) (by kernel_rfl) (by intro _ _ _ h; exact h) (Or.inl ⟨by rfl, fun w hS => by go_simp⟩) hH ?_
    simp only [Act.put, List.setIfInBounds_toArray, List.set_cons_zero, List.set_cons_succ]
    refine wpAnyH_take (i := 4) (v := undef) (by simp only [List.getElem?_toArray, List.getElem?_cons_succ, List.getElem?_cons_zero]; rfl) (by kernel_rfl) (by kernel_rfl) (by kernel_rfl) (by intro _ _ _ h; exact h) (Or.inr ⟨by rfl, rfl⟩) hH ?_
    simp only [Act.put, List.setIfInBounds_toArray, List.set_cons_zero, List.set_cons_succ]
    refine wpAnyH_take (i := 5) (v := undef) (by simp only [List.getElem?_toArray, List.getElem?_cons_succ, List.getElem?_cons_zero]; rfl) (by kernel_rfl) (by kernel_rfl) (by kernel_rfl) (by intro _ _ _ h; exact h) (Or.inr ⟨by rfl, rfl⟩) hH ?_
    simp only [Act.put, List.setIfInBounds_toArray, List.set_cons_zero, List.set_cons_succ]
    refine wpAnyH_take (i := 6) (v := undef) (by simp only [List.getElem?_toArray, List.getElem?_cons_succ, List.getElem?_cons_zero]; rfl) (by kernel_rfl) (by kernel_rfl) (by kernel_rfl) (by intro _ _ _ h; exact h) (Or.inr ⟨by rfl, rfl⟩) hH ?_
    simp only [Act.put, List.setIfInBounds_toArray, List.set_cons_zero, List.set_cons_succ]
    refine wpAnyH_take (i := 7) (v := undef) (by simp only [List.getElem?_toArray, List.getElem?_cons_succ, List.getElem?_cons_zero]; rfl) (by kernel_rfl) (by kernel_rfl) (by kernel_rfl) (by intro _ _ _ h; exact h) (Or.inr ⟨by rfl, rfl⟩) hH ?_
    simp only [Act.put, List.setIfInBounds_toArray, List.set_cons_zero, List.set_cons_succ]
    refine wpAnyH_take (i := 8) (v := undef) (by simp only [List.getElem?_toArray, List.getElem?_cons_succ, List.getElem?_cons_zero]; rfl) (by kernel_rfl) (by kernel_rfl) (by kernel_rfl) (by intro _ _ _ h; exact h) (Or.inr ⟨by rfl, rfl⟩) hH ?_
    simp only [Act.put, List.setIfInBounds_toArray, List.set_cons_zero, List.set_cons_succ]
    refine wpAnyH_take (i := 9) (v := undef) (by simp only [List.getElem?_toArray, List.getElem?_cons_succ, List.getElem?_cons_zero]; rfl) (by kernel_rfl) (by kernel_rfl) (by kernel_rfl) (by intro _ _ _ h; exact h) (Or.inr ⟨by rfl, rfl⟩) hH ?_
    simp only [Act.put, List.setIfInBounds_toArray, List.set_cons_zero, List.set_cons_succ]
    refine wpAnyH_take (i := 10) (v := .bool false) (by simp only [List.getElem?_toArray, List.getElem?_cons_succ, List.getElem?_cons_zero]; rfl) (by kernel_rfl) (by kernel_rfl) (by kernel_rfl) (by intro _ _ _ h; exact h) (Or.inl ⟨by rfl, fun w hS => by go_simp⟩) hH ?_
    simp only [Act.put, List.setIfInBounds_toArray, List.set_cons_zero, List.set_cons_succ]
    refine wpAnyH_take (i := 11) (v := .bool false) (by simp only [List.getElem?_toArray, List.getElem?_cons_succ, List.getElem?_cons_zero]; rfl) (by kernel_rfl) (by kernel_rfl) (by kernel_rfl) (by intro _ _ _ h; exact h) (Or.inl ⟨by rfl, fun w hS => by go_simp⟩) hH ?_
    simp only [Act.put, List.setIfInBounds_toArray, List.set_cons_zero, List.set_cons_succ]
    refine wpAnyH_take (i := 12) (v := undef) (by simp only [List.getElem?_toArray, List.getElem?_cons_succ, List.getElem?_cons_zero]; rfl) (by kernel_rfl) (by kernel_rfl) (by kernel_rfl) (by intro _ _ _ h; exact h) (Or.inr ⟨by rfl, rfl⟩) hH ?_
    simp only [Act.put, List.setIfInBounds_toArray, List.set_cons_zero, List.set_cons_succ]
    refine wpAnyH_take (i := 13) (v := undef) (by simp only [List.getElem?_toArray, List.getElem?_cons_succ, List.getElem?_cons_zero]; rfl) (by kernel_rfl) (by kernel_rfl) (by kernel_rfl) (by intro _ _ _ h; exact h) (Or.inr ⟨by rfl, rfl⟩) hH ?_
    simp only [Act.put, List.setIfInBounds_toArray, List.set_cons_zero, List.set_cons_succ]
    refine wpAnyH_take (i := 14) (v := undef) (by simp only [List.getElem?_toArray, List.getElem?_cons_succ, List.getElem?_cons_zero]; rfl) (by kernel_rfl) (by kernel_rfl) (by kernel_rfl) (by intro _ _ _ h; exact h) (Or.inr ⟨by rfl, rfl⟩) hH ?_
    simp only [Act.put, List.setIfInBounds_toArray, List.set_cons_zero, List.set_cons_succ]
    refine wpAnyH_take (i := 15) (v := undef) (by simp only [List.getElem?_toArray, List.getElem?_cons_succ, List.getElem?_cons_zero]; rfl) (by kernel_rfl) (by kernel_rfl) (by kernel_rfl) (by intro _ _ _ h; exact h) (Or.inr ⟨by rfl, rfl⟩) hH ?_
    simp only [Act.put, List.setIfInBounds_toArray, List.set_cons_zero, List.set_cons_succ]
    refine wpAnyH_take (i := 16) (v := undef) (by simp only [List.getElem?_toArray, List.getElem?_cons_succ, List.getElem?_cons_zero]; rfl) (by kernel_rfl) (by kernel_rfl) (by kernel_rfl) (by intro _ _ _ h; exact h) (Or.inr ⟨by rfl, rfl⟩) hH ?_
    simp only [Act.put, List.setIfInBounds_toArray, List.set_cons_zero, List.set_cons_succ]
    refine wpAnyH_take (i := 17) (v := undef) (by simp only [List.getElem?_toArray, List.getElem?_cons_succ, List.getElem?_cons_zero]; rfl) (by kernel_rfl) (by kernel_rfl) (by kernel_rfl) (by intro _ _ _ h; exact h) (Or.inr ⟨by rfl, rfl⟩) hH ?_
    simp only [Act.put, List.setIfInBounds_toArray, List.set_cons_zero, List.set_cons_succ]
    refine wpAnyH_take (i := 18) (v := undef) (by simp only [List.getElem?_toArray, List.getElem?_cons_succ, List.getElem?_cons_zero]; rfl) (by kernel_rfl) (by kernel_rfl) (by kernel_rfl) (by intro _ _ _ h; exact h) (Or.inr ⟨by rfl, rfl⟩) hH ?_
    simp only [Act.put, List.setIfInBounds_toArray, List.set_cons_zero, List.set_cons_succ]
    refine wpAnyH_take (i := 19) (v := undef) (by simp only [List.getElem?_toArray, List.getElem?_cons_succ, List.getElem?_cons_zero]; rfl) (by kernel_rfl) (by kernel_rfl) (by kernel_rfl) (by intro _ _ _ h; exact h) (Or.inr ⟨by rfl, rfl⟩) hH ?_
    simp only [Act.put, List.setIfInBounds_toArray, List.set_cons_zero, List.set_cons_succ]
    refine wpAnyH_take (i := 20) (v := .bool false) (by simp only [List.getElem?_toArray, List.getElem?_cons_succ, List.getElem?_cons_zero]; rfl) (by kernel_rfl) (by kernel_rfl) (by kernel_rfl) (by intro _ _ _ h; exact h) (Or.inl ⟨by rfl, fun w hS => by go_simp⟩) hH ?_
    simp only [Act.put, List.setIfInBounds_toArray, List.set_cons_zero, List.set_cons_succ]
    refine wpAnyH_done (by kernel_rfl) ?_ _
    replace V := hid (var_below hH V.out)
    replace VT := hid (var_below hH VT.out)
    replace BB := hid (BB.out.trans (hH.mono BB.out.size))
    clear hH c0 c1 c2 c3 b0 b1 b2 b3 b4 b5 b6 VB I1
    have VL := VT
    have V2 := hid (cr_row (new := #[.int .i64 0, .int .i64 X.n, .int .i64 X.i, .int .i64 X.s, .int .i64 X.m, .bool false]) V.out)
    have B2 := hid (cr_below (L := #[.int .i64 0, .int .i64 X.n, .int .i64 X.i, .int .i64 X.s, .int .i64 X.m, .bool false]) BB.out LG.out)
    go_wp2_with (first | refine wpList_load_row rfl 57 _ rfl gt rfl 57 #[.int .i64 0, .int .i64 X.n, .int .i64 X.i, .int .i64 X.s, .int .i64 X.m, .bool false] _ _ VL.out Try.underlying57 rfl (cr_info _ rfl) ?_ | refine wpList_store_row rfl 57 _ _ rfl g #[.int .i64 0, .int .i64 X.n, .int .i64 X.i, .int .i64 X.s, .int .i64 X.m, .bool false] rfl rfl 57 _ V.out (cr_info _ rfl) rfl (cr_one _ _ _ _ _ _) ?_)
    exact bodyPost_ret (v := .agg #[.int .i64 0, .int .i64 X.n, .int .i64 X.i, .int .i64 X.s, .int .i64 X.m, .bool false]) (results_cell_row rfl _ _ g 57 _ _ _ rfl V2.out Try.underlying57 rfl (by kernel_rfl)) rfl ⟨by have e := hR.out.trans E.out; rw [e]; first | done | rfl, B2.out⟩
end Go.Proofs.Ytalaolfcdaaaoaa.W

namespace Go.Proofs.Ytalaolfcdaaaoaa.W
open Go.ChangeShapes Go.WideShapes Go.ChangeAt Go.RowKit
open Go.Proofs.Ytalaolfcdaaaoaa.M

def sp3 (s : Int × Int × Int) : List Value := [.int .i64 s.1, .int .i64 s.2.1, .int .i64 s.2.2]
def rowSp : List (Int × Int × Int) → List Value
  | [] => []
  | s :: r => sp3 s ++ rowSp r
theorem rowSp_len : ∀ r, (rowSp r).length = r.length * 3
  | [] => rfl
  | s :: r => by rw [rowSp, List.length_append, rowSp_len r, List.length_cons]; simp [sp3]; omega
theorem rowSp_get : ∀ (r : List (Int × Int × Int)) (j : Nat) (hj : j < r.length) (t : Nat), t < 3 → (rowSp r)[j * 3 + t]? = (sp3 r[j])[t]?
  | [], j, hj, _, _ => by simp at hj
  | s :: r, 0, hj, t, ht => by
    rw [rowSp, List.getElem?_append_left (by simp [sp3]; omega)]
    simp
  | s :: r, j + 1, hj, t, ht => by
    have := rowSp_get r j (by simpa using hj) t ht
    rw [rowSp, List.getElem?_append_right (by simp [sp3]; omega), show (sp3 s).length = 3 from rfl, show (j + 1) * 3 + t - 3 = j * 3 + t by omega, this]
    simp
/-- All are within their bounds. -/
def inS (r : List (Int × Int × Int)) : Bool := r.all fun s => inB s.1 s.2.1 s.2.2
theorem inS_no {r : List (Int × Int × Int)} {k : Nat} (hk : k < r.length) (h : inB r[k].1 r[k].2.1 r[k].2.2 = false) : inS r = false := by
  unfold inS
  rw [List.all_eq_false]
  exact ⟨r[k], List.getElem_mem _, by rw [h]; simp⟩
theorem inS_yes {r : List (Int × Int × Int)} (h : ∀ k (hk : k < r.length), inB r[k].1 r[k].2.1 r[k].2.2 = true) : inS r = true := by
  unfold inS
  rw [List.all_eq_true]
  intro s hs
  obtain ⟨k, hk, rfl⟩ := List.getElem_of_mem hs
  exact h k hk
theorem idx_sp (b n c j : Nat) (hj : j < n) (w : World) : (Instr.indexAt 146 (.slice (some ⟨b, 0, none⟩) n c) (.int .i64 (j : Int))).run Try.prog w = .ok (.pointer (some ⟨b, j * 3, none⟩)) w := by
  have hs : ∀ w : World, (sizeOf (Try.prog.elem 146)).run Try.prog w = .ok 3 w := fun _ => by kernel_rfl
  rw [run_indexAt_slice (P := Try.prog) w 146 _ n c .i64 (j : Int) (by kernel_rfl)]
  simp [hs, hj, Result.andThen, Addr.add_lit]
set_option maxHeartbeats 1000000 in
set_option maxRecDepth 100000 in
theorem withinL (r : List (Int × Int × Int)) (hr : r.length ≤ 1048576) (g : Nat) (w : World) (hg : w.heap[g]? = some (.cells (rowSp r).toArray 100)) :
    Calls Try.prog 67 #[.slice (some ⟨g, 0, none⟩) r.length r.length] w fun e w' => e = .returned (.bool (inS r)) ∧ Below w.heap.size w w' := by
  have hc : ∀ k (hk : k < r.length), w.cell? ⟨g, k * 3, none⟩ = some (.int .i64 r[k].1) ∧ w.cell? ⟨g, k * 3 + 1, none⟩ = some (.int .i64 r[k].2.1) ∧ w.cell? ⟨g, k * 3 + 2, none⟩ = some (.int .i64 r[k].2.2) := fun k hk => by
    have q : ∀ t x, t < 3 → (sp3 r[k])[t]? = some x → w.cell? ⟨g, k * 3 + t, none⟩ = some x := fun t x ht e => by
      rw [cell_of_row w g _ _ _ _ hg, List.getElem?_toArray, rowSp_get r k hk t ht]
      exact e
    exact ⟨q 0 _ (by omega) rfl, q 1 _ (by omega) rfl, q 2 _ (by omega) rfl⟩
  replace hc := hid hc
  clear hg
  go_enter Try.func67, Try.ntmps67
  go_wp2_with fail
  go_loopw [4, 7] (fun u i wr => ∃ k : Nat, ∃ u4 : Value, k ≤ r.length ∧ i = .int .i64 k ∧ u = u4 ∧ Hid (Below w.heap.size w wr) ∧ Hid (∀ j (hj : j < r.length), j < k → inB r[j].1 r[j].2.1 r[j].2.2 = true)) (fun _ i _ => r.length - (intOf i).toNat)
  case atStart => exact ⟨0, _, by omega, rfl, rfl, hid (Below.refl _ _), hid fun j _ q => by omega⟩
  case round =>
    obtain ⟨k, u4, hk, rfl, rfl, BL, OK⟩ := hrel
    by_cases hlt : k < r.length
    · obtain ⟨c0, c1, c2⟩ := hc.out k hlt
      replace c0 := cell_kept BL.out c0
      replace c1 := cell_kept BL.out c1
      replace c2 := cell_kept BL.out c2
      have I1 := idx_sp g r.length r.length k hlt
      have NO := hid fun q => inS_no hlt q
      have YS := hid fun (q : inB r[k].1 r[k].2.1 r[k].2.2 = true) => show ∀ j (hj : j < r.length), j < k + 1 → inB r[j].1 r[j].2.1 r[j].2.2 = true from fun j hj q2 => by
        rcases Nat.lt_or_ge j k with q3 | q3
        · exact OK.out j hj q3
        · obtain rfl : j = k := by omega
          exact q
      obtain ⟨⟨x, l, h⟩, hs⟩ : ∃ s, s = r[k] := ⟨_, rfl⟩
      rw [← hs] at c0 c1 c2 NO YS
      clear hs
      simp only at c0 c1 c2 NO YS
      have B2 := hid (BL.out.trans ((below_alloc1 wr (.cells #[.int .i64 x, .int .i64 l, .int .i64 h] 100)).mono BL.out.size))
      by_cases a1 : l ≤ x
      · by_cases a2 : x ≤ h
        · have OK2 := hid (YS.out (by unfold inB; simp [a1, a2]))
          clear YS NO OK BL
          go_wp2
          go_roundw
          case rel => exact ⟨k + 1, _, hlt, by go_num, rfl, B2, OK2⟩
          case measure => simp [intOf]; omega
        · have E := hid (NO.out (by unfold inB; rw [decide_eq_false (fun q : l ≤ x ∧ x ≤ h => a2 q.2)]))
          clear YS NO OK BL
          go_wp2
          go_ret
          exact ⟨ret_b E.out.symm, B2.out⟩
      · have E := hid (NO.out (by unfold inB; rw [decide_eq_false (fun q : l ≤ x ∧ x ≤ h => a1 q.1)]))
        clear YS NO OK BL
        go_wp2
        go_ret
        exact ⟨ret_b E.out.symm, B2.out⟩
    · have E := hid (inS_yes fun j hj => OK.out j hj (by omega))
      go_wp2
      go_ret
      exact ⟨ret_b E.out.symm, BL.out⟩
set_option maxRecDepth 100000 in
theorem nspan (n : Int) (w : World) :
    Calls Try.prog 68 #[.int .i64 n] w fun e w' => e = .returned (.agg #[.int .i64 n, .int .i64 0, .int .i64 3]) ∧ Below w.heap.size w w' := by
  have BB := hid (below_alloc1 w (.cells #[.int .i64 n, .int .i64 0, .int .i64 3] 100))
  have V := hid (heap_alloc_new w (.cells #[.int .i64 n, .int .i64 0, .int .i64 3] 100))
  go_enter Try.func68, Try.ntmps68
  go_wp2
  exact bodyPost_ret (v := .agg #[.int .i64 n, .int .i64 0, .int .i64 3]) (results_cell_row rfl _ _ w.heap.size 100 _ _ _ rfl V.out Try.underlying100 rfl (by kernel_rfl)) rfl ⟨rfl, BB.out⟩
end Go.Proofs.Ytalaolfcdaaaoaa.W
