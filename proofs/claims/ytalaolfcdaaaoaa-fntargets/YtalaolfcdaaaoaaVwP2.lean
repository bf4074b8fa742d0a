/-
  Where a node stands in a view: what slices.BinarySearchFunc and the program's placeOf answer there.
-/
import Derived.Test.YtalaolfcdaaaoaaVwP
namespace Go.Proofs.Ytalaolfcdaaaoaa.W
open Go.ChangeShapes Go.WideShapes Go.ChangeAt Go.RowKit
open Go.Proofs.Ytalaolfcdaaaoaa.M

theorem lb_fix {cs : List Clm} {n : Int} {k : Nat} (hk : k ≤ cs.length) (h1 : ∀ j (hj : j < cs.length), j < k → cs[j].n < n) (h2 : ∀ j (hj : j < cs.length), k ≤ j → n ≤ cs[j].n) : lb cs n = k := by
  rcases Nat.lt_trichotomy (lb cs n) k with q | q | q
  · have h3 := lb_at (cs := cs) (n := n) (by omega)
    have h4 := h1 (lb cs n) (by omega) q
    omega
  · exact q
  · have h3 := lb_low q
    have h4 := h2 k (Nat.lt_of_lt_of_le q (lb_le cs n)) (Nat.le_refl _)
    omega
theorem ret_ib {k l : Nat} {s t : Bool} (h : k = l) (h2 : s = t) : Ending.returned (.tuple #[.int .i64 (k : Int), .bool s]) = .returned (.tuple #[.int .i64 (l : Int), .bool t]) := by rw [h, h2]
set_option maxHeartbeats 2000000 in
set_option maxRecDepth 100000 in
theorem bsf (v : Value) (cs : List Clm) (n : Int) (g : Nat) (w : World) (h : RdC w v cs) (hg : w.heap[g]? = some (.cells #[.func (.func 77) #[] #[]] 108)) (hl : cs.length ≤ 1048576) (hp : cs.Pairwise (fun a b => a.n < b.n)) :
    Calls Try.prog 117 #[v, .int .i64 n, .func (.func 118) #[] #[.pointer (some ⟨g, 0, none⟩)]] w
      fun e w' => e = .returned (.tuple #[.int .i64 (lb cs n : Int), .bool (hasN cs n)]) ∧ Below w.heap.size w w' := by
  have H := hid h
  have V := hid hg
  have HP := hid hp
  obtain ⟨a, cap, rfl, -, -, -⟩ := h.parts
  clear h hg hp
  go_enter Try.func117, Try.ntmps117
  go_wp2_with fail
  go_loopw [9, 10, 11] (fun s9 s10 s11 wr => ∃ lo hi : Nat, ∃ u : Value, s9 = .int .i64 lo ∧ s10 = .int .i64 hi ∧ s11 = u ∧ lo ≤ hi ∧ hi ≤ cs.length ∧ Hid (Below w.heap.size w wr) ∧ Hid (∀ j (hj : j < cs.length), j < lo → cs[j].n < n) ∧ Hid (∀ j (hj : j < cs.length), hi ≤ j → n ≤ cs[j].n)) (fun a b _ _ => (intOf b).toNat - (intOf a).toNat)
  case atStart => exact ⟨0, cs.length, _, rfl, rfl, rfl, by omega, by omega, hid (Below.refl _ _), hid fun j _ q => by omega, hid fun j hj q => by omega⟩
  case round =>
    obtain ⟨lo, hi, u, rfl, rfl, rfl, hlh, hhl, BL, L1, L2⟩ := hrel
    by_cases hlt : lo < hi
    · obtain ⟨k, hk⟩ : ∃ k, k = (lo + hi) / 2 := ⟨_, rfl⟩
      have hk0 : lo ≤ k := by omega
      have hk1 : k < hi := by omega
      have hkl : k < cs.length := by omega
      have ek : ((lo : Int) + (hi : Int)) / 2 = (k : Int) := by omega
      have HK := hid hk
      clear hk
      obtain ⟨a', cap', e, -, -, hcs⟩ := (H.out.below BL.out).parts
      cases e
      obtain ⟨b, o, rfl, q1⟩ := hcs k hkl
      obtain ⟨c0, c1, c2, c3⟩ := c_cells q1
      have I1 := idx_ci b o cs.length cap k hkl
      obtain ⟨M, hM⟩ : ∃ M, M = cs[k] := ⟨_, rfl⟩
      rw [← hM] at c0 c1 c2 c3
      have HM := hid hM
      clear q1 hcs hM
      go_wp2_with (simp only [ek])
      refine (plc M n g _ (var_below BL.out V.out)).mono ?_
      rintro e w1 ⟨rfl, hB⟩
      replace BL := hid (BL.out.trans (hB.mono BL.out.size))
      clear hB c0 c1 c2 c3
      by_cases hd : M.n < n
      · rw [show cmp3 M.n n = -1 by rw [cmp3, if_pos hd]]
        have N1 := hid (show ∀ j (hj : j < cs.length), j < k + 1 → cs[j].n < n from fun j hj q => by
          rcases Nat.lt_or_ge j k with q2 | q2
          · have := pair_at HP.out q2 hkl
            rw [HM.out] at hd
            omega
          · obtain rfl : j = k := by omega
            rw [HM.out] at hd
            exact hd)
        go_wp2
        go_roundw
        case rel => exact ⟨k + 1, hi, _, by go_num, rfl, rfl, by omega, hhl, BL, N1, L2⟩
        case measure => simp [intOf]; omega
      · obtain ⟨t, ht⟩ : ∃ t, t = cmp3 M.n n := ⟨_, rfl⟩
        have ht0 : ¬ t < 0 := by
          rw [ht, cmp3, if_neg hd]
          split <;> omega
        rw [← ht]
        clear ht
        have N2 := hid (show ∀ j (hj : j < cs.length), k ≤ j → n ≤ cs[j].n from fun j hj q => by
          rw [HM.out] at hd
          rcases Nat.lt_or_ge k j with q2 | q2
          · have := pair_at HP.out q2 hj
            omega
          · obtain rfl : j = k := by omega
            omega)
        go_wp2
        go_roundw
        case rel => exact ⟨lo, k, _, rfl, rfl, rfl, by omega, by omega, BL, L1, N2⟩
        case measure => simp [intOf]; omega
    · obtain rfl : hi = lo := by omega
      have E1 := lb_fix hhl L1.out L2.out
      by_cases hn : hi < cs.length
      · obtain ⟨a', cap', e, -, -, hcs⟩ := (H.out.below BL.out).parts
        cases e
        obtain ⟨b, o, rfl, q1⟩ := hcs hi hn
        obtain ⟨c0, c1, c2, c3⟩ := c_cells q1
        have I1 := idx_ci b o cs.length cap hi hn
        obtain ⟨M, hM⟩ : ∃ M, M = cs[hi] := ⟨_, rfl⟩
        rw [← hM] at c0 c1 c2 c3
        have HM := hid hM
        have E2 := hid E1
        clear q1 hcs hM E1
        go_wp2_with fail
        refine (plc M n g _ (var_below BL.out V.out)).mono ?_
        rintro e w1 ⟨rfl, hB⟩
        replace BL := hid (BL.out.trans (hB.mono BL.out.size))
        clear hB c0 c1 c2 c3
        by_cases hd : M.n = n
        · rw [show cmp3 M.n n = 0 by rw [cmp3, if_neg (by omega), if_neg (by omega)]]
          have E3 := hid (show hasN cs n = true from hasN_mk (by rw [E2.out]; exact hn) (by simp only [E2.out]; rw [← HM.out]; exact hd))
          go_wp2
          go_ret2
          exact ⟨ret_ib E2.out.symm E3.out.symm, BL.out⟩
        · obtain ⟨t, ht⟩ : ∃ t, t = cmp3 M.n n := ⟨_, rfl⟩
          have ht0 : (t == 0) = false := by
            rw [beq_eq_false_iff_ne, ht, cmp3]
            split
            · omega
            · split <;> omega
          rw [← ht]
          clear ht
          have E3 := hid (show hasN cs n = false by
            cases e : hasN cs n with
            | false => rfl
            | true =>
              obtain ⟨q1, q2⟩ := hasN_yes e
              simp only [E2.out] at q2
              rw [← HM.out] at q2
              exact absurd q2 hd)
          go_wp2
          go_ret2
          exact ⟨ret_ib E2.out.symm E3.out.symm, BL.out⟩
      · have E2 := hid E1
        have E3 := hid (show hasN cs n = false by
          cases e : hasN cs n with
          | false => rfl
          | true =>
            obtain ⟨q1, q2⟩ := hasN_yes e
            omega)
        clear E1
        go_wp2
        go_ret2
        exact ⟨ret_ib E2.out.symm E3.out.symm, BL.out⟩
set_option maxHeartbeats 1000000 in
set_option maxRecDepth 100000 in
theorem plo (v : Value) (cs : List Clm) (n : Int) (w : World) (h : RdC w v cs) (hl : cs.length ≤ 1048576) (hp : cs.Pairwise (fun a b => a.n < b.n)) :
    Calls Try.prog 76 #[v, .int .i64 n, .func (.func 77) #[] #[]] w
      fun e w' => e = .returned (.tuple #[.int .i64 (lb cs n : Int), .bool (hasN cs n)]) ∧ Below w.heap.size w w' := by
  have H := hid h
  have HP := hid hp
  obtain ⟨a, cap, rfl, -, -, -⟩ := h.parts
  clear h hp
  have V := hid (heap_alloc_new w (.cells #[.func (.func 77) #[] #[]] 108))
  have BB := hid (below_alloc1 w (.cells #[.func (.func 77) #[] #[]] 108))
  go_enter Try.func76, Try.ntmps76
  go_wp2_with fail
  refine (bsf _ cs n _ _ (H.out.below BB.out) V.out hl HP.out).mono ?_
  rintro e w1 ⟨rfl, hB⟩
  replace BB := hid (BB.out.trans (hB.mono BB.out.size))
  obtain ⟨k, hk⟩ : ∃ k, k = lb cs n := ⟨_, rfl⟩
  obtain ⟨t, ht⟩ : ∃ t, t = hasN cs n := ⟨_, rfl⟩
  rw [← hk, ← ht]
  replace hk := hid hk
  replace ht := hid ht
  clear hB V
  go_wp2
  go_ret2
  exact ⟨ret_ib hk.out ht.out, BB.out⟩
end Go.Proofs.Ytalaolfcdaaaoaa.W
