/-
  The laws' own helpers over slices of slices of bytes: comparisons, marks.
-/
import Derived.Test.YtflnhjbanlpjiagSlWalks
import Derived.Test.YtflnhjbanlpjiagWdsM
import Derived.Deep.RegionHeld3
import Derived.BigRegion
namespace Go.Proofs.Ytflnhjbanlpjiag.W
open Go.ChangeShapes Go.WideShapes Go.ChangeAt Go.RowKit
open Go.Proofs.Ytflnhjbanlpjiag.M

set_option maxHeartbeats 1000000 in
set_option maxRecDepth 100000 in
theorem eqSS (va vb : Value) (ls : List (List Nat)) (w : World) (ha : RdS w va ls) (hb : RdS w vb ls) (h4 : ∀ i (h : i < ls.length), ls[i].length = 4) (hl : ls.length ≤ 1000) :
    Calls Try.prog 45 #[va, vb] w fun e w' => e = .returned (.bool true) ∧ Below w.heap.size w w' := by
  obtain ⟨a, capa, rfl, -, -, hca⟩ := ha.parts
  obtain ⟨b, capb, rfl, -, -, hcb⟩ := hb.parts
  have HA := hid hca
  have HB := hid hcb
  have H4 := hid h4
  clear ha hb hca hcb h4
  go_enter Try.func45, Try.ntmps45
  go_wp2
  go_loopw [5] (fun i wr => ∃ k : Nat, k ≤ ls.length ∧ i = .int .i64 k ∧ Hid (Below w.heap.size w wr)) (fun i _ => ls.length - (intOf i).toNat)
  case atStart => exact ⟨0, by omega, rfl, hid (Below.refl _ _)⟩
  case round =>
    obtain ⟨k, hk, rfl, HBl⟩ := hrel
    by_cases hlt : k < ls.length
    · obtain ⟨ba, oa, ua, rfl, ca, ra⟩ := HA.out k hlt
      obtain ⟨bb, ob, ub, rfl, cb, rb⟩ := HB.out k hlt
      obtain ⟨pa, la, rfl, -, -, -⟩ := ra.parts
      obtain ⟨pb, lb, rfl, -, -, -⟩ := rb.parts
      have CA := hid ca
      have CB := hid cb
      have RA := hid ra
      have RB := hid rb
      have L4 := hid (H4.out k hlt)
      clear ca cb ra rb
      have k0 : (0 : Int) ≤ (k : Int) := by omega
      have k1 : (k : Int) < (ls.length : Int) := by omega
      generalize ls[k] = l at *
      go_wp2_with fail
      refine wp_region_held_drew (S := fun w' => Below w.heap.size w w') (by kernel_rfl) HBl.out.drew (fun hH => ?_)
      refine wpAnyH_take (i := 0) (v := .slice (some ⟨ba, oa, none⟩) ls.length capa) (by simp only [List.getElem?_toArray, List.getElem?_cons_zero]; rfl) (by kernel_rfl) (by kernel_rfl) (by kernel_rfl) (by intro _ _ _ h; exact h) (Or.inl ⟨by rfl, fun w hS => by go_simp⟩) hH ?_
      simp only [Act.put, List.setIfInBounds_toArray, List.set_cons_zero, List.set_cons_succ]
      refine wpAnyH_take (i := 1) (v := .int .i64 (k : Int)) (by simp only [List.getElem?_toArray, List.getElem?_cons_succ, List.getElem?_cons_zero]; rfl) (by kernel_rfl) (by kernel_rfl) (by kernel_rfl) (by intro _ _ _ h; exact h) (Or.inl ⟨by rfl, fun w hS => by go_simp⟩) hH ?_
      simp only [Act.put, List.setIfInBounds_toArray, List.set_cons_zero, List.set_cons_succ]
      refine wpAnyH_take (i := 2) (v := .pointer (some ⟨ba, oa + k, none⟩)) (by simp only [List.getElem?_toArray, List.getElem?_cons_succ, List.getElem?_cons_zero]; rfl) (by kernel_rfl) (by kernel_rfl) (by kernel_rfl) (by intro _ _ _ h; exact h) (Or.inl ⟨by rfl, fun w hS => by go_simp⟩) hH ?_
      simp only [Act.put, List.setIfInBounds_toArray, List.set_cons_zero, List.set_cons_succ]
      refine wpAnyH_take (i := 3) (v := .slice pa l.length la) (by simp only [List.getElem?_toArray, List.getElem?_cons_succ, List.getElem?_cons_zero]; rfl) (by kernel_rfl) (by kernel_rfl) (by kernel_rfl) (by intro _ _ _ h; exact h) (Or.inl ⟨by rfl, fun w hS => by have c := cell_kept hS CA.out; go_simp⟩) hH ?_
      simp only [Act.put, List.setIfInBounds_toArray, List.set_cons_zero, List.set_cons_succ]
      refine wpAnyH_take (i := 4) (v := .slice (some ⟨bb, ob, none⟩) ls.length capb) (by simp only [List.getElem?_toArray, List.getElem?_cons_succ, List.getElem?_cons_zero]; rfl) (by kernel_rfl) (by kernel_rfl) (by kernel_rfl) (by intro _ _ _ h; exact h) (Or.inl ⟨by rfl, fun w hS => by go_simp⟩) hH ?_
      simp only [Act.put, List.setIfInBounds_toArray, List.set_cons_zero, List.set_cons_succ]
      refine wpAnyH_take (i := 5) (v := .int .i64 (k : Int)) (by simp only [List.getElem?_toArray, List.getElem?_cons_succ, List.getElem?_cons_zero]; rfl) (by kernel_rfl) (by kernel_rfl) (by kernel_rfl) (by intro _ _ _ h; exact h) (Or.inl ⟨by rfl, fun w hS => by go_simp⟩) hH ?_
      simp only [Act.put, List.setIfInBounds_toArray, List.set_cons_zero, List.set_cons_succ]
      refine wpAnyH_take (i := 6) (v := .pointer (some ⟨bb, ob + k, none⟩)) (by simp only [List.getElem?_toArray, List.getElem?_cons_succ, List.getElem?_cons_zero]; rfl) (by kernel_rfl) (by kernel_rfl) (by kernel_rfl) (by intro _ _ _ h; exact h) (Or.inl ⟨by rfl, fun w hS => by go_simp⟩) hH ?_
      simp only [Act.put, List.setIfInBounds_toArray, List.set_cons_zero, List.set_cons_succ]
      refine wpAnyH_take (i := 7) (v := .slice pb l.length lb) (by simp only [List.getElem?_toArray, List.getElem?_cons_succ, List.getElem?_cons_zero]; rfl) (by kernel_rfl) (by kernel_rfl) (by kernel_rfl) (by intro _ _ _ h; exact h) (Or.inl ⟨by rfl, fun w hS => by have c := cell_kept hS CB.out; go_simp⟩) hH ?_
      simp only [Act.put, List.setIfInBounds_toArray, List.set_cons_zero, List.set_cons_succ]
      generalize wr.drew = x at hH ⊢
      refine wpAnyH_ready (rs := [8]) (by kernel_rfl) (by simp) ?_
      refine AllReadyH.cons (by simp only [List.getElem?_toArray, List.getElem?_cons_succ, List.getElem?_cons_zero]; rfl) (fun K hK => ?_) AllReadyH.nil
      go_simp
      refine (eqB _ _ l _ (RA.out.below hH) (RB.out.below hH) (by rw [L4.out]; omega)).mono ?_
      rintro e x8 ⟨rfl, hM⟩
      refine hK.out _ _ (hH.trans (hM.mono hH.size)) (fun hH => ?_)
      clear hK K hM
      refine wpAnyH_ready (rs := [9]) (by kernel_rfl) (by simp) ?_
      refine AllReadyH.cons (by simp only [List.getElem?_toArray, List.getElem?_cons_succ, List.getElem?_cons_zero]; rfl) (fun K hK => ?_) AllReadyH.nil
      go_simp
      refine hK.out _ _ hH (fun hH => ?_)
      clear hK K
      refine wpAnyH_done (by kernel_rfl) ?_ _
      go_wp2
      exact ⟨⟨k + 1, by omega, num_succ k, hid hH⟩, by simp [intOf]; omega⟩
    · have hk8 : k = ls.length := by omega
      subst hk8
      have k1 : ¬ ((ls.length : Nat) : Int) < (ls.length : Int) := by omega
      go_wp2
      go_ret
      exact ⟨rfl, HBl.out⟩

/-- What marks leave of all else. -/
def Still (w w' : World) (vs : List Value) : Prop := ∀ (g : Nat) (o : Obj), w.heap[g]? = some o → (∀ (i : Nat) (u : Value), vs[i]? = some u → u.ownBlock ≠ some g) → w'.heap[g]? = some o
set_option maxHeartbeats 1000000 in
set_option maxRecDepth 100000 in
theorem markSS (v : Value) (vs : List Value) (ls : List (List Nat)) (k base : Nat) (w : World) (h : Wds w base v vs ls) (h4 : ∀ i (h : i < ls.length), ls[i].length = 4) (hl : ls.length ≤ 1000) (hk : k ≤ 1000) (hb : base ≤ w.heap.size) :
    Calls Try.prog 46 #[v, .int .i64 (k : Int)] w fun e w' => e = .returned (.int .i64 ((k + 4 * ls.length : Nat) : Int)) ∧ Wds w' base v vs (mks k ls.length) ∧ Below base w w' ∧ Still w w' vs := by
  obtain ⟨p, cap, rfl, -, -, -⟩ := h.rd.parts
  have H := hid h
  have H4 := hid h4
  clear h h4
  go_enter Try.func46, Try.ntmps46
  go_wp2_with fail
  go_loopw [1, 5] (fun kk i wr => ∃ j m : Nat, j ≤ ls.length ∧ Hid (m = k + 4 * j) ∧ i = .int .i64 (j : Nat) ∧ kk = .int .i64 (m : Nat) ∧ Hid (Wds wr base (.slice p ls.length cap) vs (mk4 k ls j)) ∧ Hid (Below base w wr) ∧ Hid (Still w wr vs)) (fun _ i _ => ls.length - (intOf i).toNat)
  case atStart => exact ⟨0, k, by omega, hid rfl, rfl, rfl, hid (by rw [mk4_zero]; exact H.out), hid (Below.refl _ _), hid (fun g o q _ => q)⟩
  case round =>
    clear H
    obtain ⟨j, m, hj, HM, rfl, rfl, HW, HBl, HS⟩ := hrel
    by_cases hlt : j < ls.length
    · obtain ⟨g, cap', e, hg1, -, -⟩ := HW.out.at (mk4_len k ls j) (by omega)
      cases e
      obtain ⟨u, hu, cu⟩ := HW.out.cell (mk4_len k ls j) j hlt
      have O := hid (HW.out.own j u (ls[j]) hu (by rw [mk4_get k ls j j hlt, if_neg (by omega)]))
      have L4 := hid (H4.out j hlt)
      have MS := hid (mk4_set k ls j hlt)
      have MM := hid (show m + 4 = k + 4 * (j + 1) by have := HM.out; omega)
      have U := hid hu
      clear hu
      obtain ⟨pu, lu, rfl, -, -, -⟩ := O.out.rd.parts
      have j0 : (0 : Int) ≤ (j : Int) := by omega
      have j1 : (j : Int) < (ls.length : Int) := by omega
      generalize ls[j] = l at *
      go_wp2_with fail
      refine (markB _ l m base _ O.out (by rw [L4.out]; omega) (by have := HM.out; omega)).mono ?_
      rintro e w1 ⟨rfl, O1, G1⟩
      rw [L4.out] at O1 U G1 ⊢
      have W1 := hid (HW.out.turned (by decide) j (marks m 4) U.out O1 G1)
      rw [HM.out, MS.out] at W1
      have B1 := hid (HBl.out.grown G1 (Nat.le_trans hb HBl.out.size) (O1.row (Nat.le_refl _)))
      have S1 := hid (show Still w w1 vs from fun g0 o0 q0 r0 => by
        have q1 := HS.out g0 o0 q0 r0
        exact var_grown G1 q1 (fun e => r0 j _ U.out e.symm))
      clear O1 G1 HW HBl HS
      go_wp2
      go_roundw
      case rel => exact ⟨j + 1, m + 4, by omega, MM, by go_num, by go_num, W1, B1, S1⟩
      case measure => simp [intOf]; omega
    · have hk8 : j = ls.length := by omega
      subst hk8
      have j1 : ¬ ((ls.length : Nat) : Int) < (ls.length : Int) := by omega
      rw [mk4_end] at HW
      have hm := HM.out
      subst hm
      go_wp2
      go_ret
      exact ⟨rfl, HW.out, HBl.out, HS.out⟩

set_option maxHeartbeats 1000000 in
set_option maxRecDepth 100000 in
theorem heldSS (v : Value) (k n : Nat) (w : World) (h : RdS w v (mks k n)) (hl : n ≤ 1000) (hk : k ≤ 1000) :
    Calls Try.prog 47 #[v, .int .i64 (k : Int)] w fun e w' => e = .returned (.int .i64 ((k + 4 * n : Nat) : Int)) ∧ w' = w := by
  obtain ⟨a, cap, rfl, -, -, hc⟩ := h.parts
  have HC := hid hc
  have ML := hid (mks_len k n)
  rw [mks_len]
  clear h hc
  go_enter Try.func47, Try.ntmps47
  go_wp2_with fail
  go_loop [1, 5] (fun kk i => ∃ j m : Nat, j ≤ n ∧ Hid (m = k + 4 * j) ∧ i = .int .i64 (j : Nat) ∧ kk = .int .i64 (m : Nat)) (fun _ i => n - (intOf i).toNat)
  case atStart => exact ⟨0, k, by omega, hid rfl, rfl, rfl⟩
  case round =>
    obtain ⟨j, m, hj, HM, rfl, rfl⟩ := hrel
    by_cases hlt : j < n
    · obtain ⟨b, o, u, rfl, cu, ru⟩ := HC.out j (by rw [ML.out]; exact hlt)
      rw [mks_at, ← HM.out] at ru
      have MM := hid (show m + 4 = k + 4 * (j + 1) by have := HM.out; omega)
      obtain ⟨pu, lu, eu, -, -, -⟩ := ru.parts
      rw [marks_len] at eu
      subst eu
      have RU := hid ru
      clear ru
      have j0 : (0 : Int) ≤ (j : Int) := by omega
      have j1 : (j : Int) < (n : Int) := by omega
      have q4 : ¬ (m : Int) + 4 < 0 := by omega
      go_wp2_with fail
      refine (heldB _ 4 m _ RU.out (by omega) (by have := HM.out; omega)).mono ?_
      rintro e w1 ⟨rfl, rfl⟩
      go_wp2
      go_round
      case rel => exact ⟨j + 1, m + 4, by omega, MM, by go_num, by go_num⟩
      case measure => simp [intOf]; omega
    · have hk8 : j = n := by omega
      subst hk8
      have j1 : ¬ ((j : Nat) : Int) < (j : Int) := by omega
      have hm := HM.out
      subst hm
      go_wp2
      go_ret
      exact ⟨rfl, rfl⟩
end Go.Proofs.Ytflnhjbanlpjiag.W
