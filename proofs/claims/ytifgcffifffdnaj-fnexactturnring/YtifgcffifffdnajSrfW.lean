/-
  The faults of a ring: what the model's RingFault answers.
-/
import Derived.Test.YtifgcffifffdnajInWalks
import Derived.Test.YtifgcffifffdnajRfF
import Derived.Deep.RegionHeld3
namespace Go.Proofs.Ytifgcffifffdnaj.W
open Go.ChangeShapes Go.WideShapes Go.ChangeAt Go.RowKit
open Go.Proofs.Ytifgcffifffdnaj.M

theorem ret_i {a b : Int} (h : a = b) : Ending.returned (.int .i64 a) = .returned (.int .i64 b) := by rw [h]
set_option maxRecDepth 100000 in
theorem l4key (b o : Nat) (id' : Int) (a : Option Addr) (n c : Nat) (w : World) (c1 : w.cell? ⟨b, o, none⟩ = some (.int .i64 id')) (c2 : w.cell? ⟨b, o + 1, none⟩ = some (.slice a n c)) (l : List Nat) (hl : l.length = n) :
    Calls Try.prog 46 #[.pointer (some ⟨b, o, none⟩)] w fun e w' => e = .returned (.int .i64 (kF (id', l))) ∧ Below w.heap.size w w' := by
  have I := hid (l1in id' 1 255 w)
  by_cases h1 : 1 ≤ id' ∧ id' ≤ 255
  · have hin : inB id' 1 255 = true := by unfold inB; exact decide_eq_true h1
    by_cases h2 : n = 16
    · have E := hid (show kF (id', l) = 0 by rw [kF, if_pos h1, if_pos (hl.trans h2)])
      subst h2
      clear h1
      go_enter Try.func46, Try.ntmps46
      go_wp2_with fail
      refine (l1in _ _ _ _).mono ?_
      rintro e w' ⟨rfl, rfl⟩
      rw [hin]
      go_wp2
      go_ret
      exact ⟨ret_i E.out.symm, Below.refl _ _⟩
    · have E := hid (show kF (id', l) = 2 by rw [kF, if_pos h1, if_neg (fun q => h2 (hl.symm.trans q))])
      have ne : ((n : Int) != 16) = true := by rw [bne_iff_ne]; omega
      clear h1
      go_enter Try.func46, Try.ntmps46
      go_wp2_with fail
      refine (l1in _ _ _ _).mono ?_
      rintro e w' ⟨rfl, rfl⟩
      rw [hin]
      go_wp2
      go_ret
      exact ⟨ret_i E.out.symm, Below.refl _ _⟩
  · have hin : inB id' 1 255 = false := by unfold inB; exact decide_eq_false h1
    have E := hid (show kF (id', l) = 3 by rw [kF, if_neg h1])
    clear h1
    go_enter Try.func46, Try.ntmps46
    go_wp2_with fail
    refine (l1in _ _ _ _).mono ?_
    rintro e w' ⟨rfl, rfl⟩
    rw [hin]
    go_wp2
    go_ret
    exact ⟨ret_i E.out.symm, Below.refl _ _⟩
theorem idx_kf (b o n c j : Nat) (hj : j < n) (w : World) : (Instr.indexAt 32 (.slice (some ⟨b, o, none⟩) n c) (.int .i64 (j : Int))).run Try.prog w = .ok (.pointer (some ⟨b, o + j * 2, none⟩)) w := by
  have hs : ∀ w : World, (sizeOf (Try.prog.elem 32)).run Try.prog w = .ok 2 w := fun _ => by kernel_rfl
  rw [run_indexAt_slice (P := Try.prog) w 32 _ n c .i64 (j : Int) (by kernel_rfl)]
  simp [hs, hj, Result.andThen, Addr.add_lit]
set_option maxHeartbeats 1000000 in
set_option maxRecDepth 100000 in
theorem l4find (g : Nat) (q id' : Int) (v : Value) (ks : List (Int × List Nat)) (w : World) (hV : w.heap[g]? = some (.cells #[.int .i64 q, v] 34)) (h : RdK w v ks) (hl : ks.length ≤ 1048576) :
    Calls Try.prog 37 #[.pointer (some ⟨g, 0, none⟩), .int .i64 id'] w fun e w' => ∃ r : Int, e = .returned (.int .i64 r) ∧ ((r = -1 ∧ ¬ Has ks id') ∨ ∃ i, ∃ hi : i < ks.length, r = (i : Int) ∧ (ks[i]).1 = id' ∧ ∀ j (hj : j < ks.length), j < i → (ks[j]).1 ≠ id') ∧ Below w.heap.size w w' := by
  have V := hid hV
  have H := hid h
  obtain ⟨a, cap, rfl, -, -, -⟩ := h.parts
  clear h hV
  go_enter Try.func37, Try.ntmps37
  go_wp2_with fail
  go_loopw [5] (fun i wr => ∃ k : Nat, k ≤ ks.length ∧ i = .int .i64 k ∧ Hid (∀ j (hj : j < ks.length), j < k → (ks[j]).1 ≠ id') ∧ Hid (Below w.heap.size w wr)) (fun i _ => ks.length - (intOf i).toNat)
  case atStart => exact ⟨0, by omega, rfl, hid (fun j _ h => absurd h (Nat.not_lt_zero j)), hid (Below.refl _ _)⟩
  case round =>
    obtain ⟨k, hk, rfl, T, BL⟩ := hrel
    obtain ⟨f0, f1, -, -⟩ := var2_facts (var_below BL.out V.out)
    by_cases hlt : k < ks.length
    · obtain ⟨a', ca', e, -, -, hcs⟩ := (H.out.below BL.out).parts
      cases e
      obtain ⟨b, o, u, rfl, q1, q2, -⟩ := hcs k hlt
      have I1 := idx_kf b o ks.length cap k hlt
      have k0 : (0 : Int) ≤ (k : Int) := by omega
      have k1 : (k : Int) < (ks.length : Int) := by omega
      clear hcs
      by_cases e : (ks[k]).1 = id'
      · have R := hid (show ∃ i, ∃ hi : i < ks.length, (k : Int) = (i : Int) ∧ (ks[i]).1 = id' ∧ ∀ j (hj : j < ks.length), j < i → (ks[j]).1 ≠ id' from ⟨k, hlt, rfl, e, T.out⟩)
        have E := hid e
        rw [e] at q1
        clear e
        go_wp2
        go_ret
        exact ⟨_, rfl, .inr R.out, BL.out⟩
      · have T2 := hid (show ∀ j (hj : j < ks.length), j < k + 1 → (ks[j]).1 ≠ id' from fun j hj hjk => by
          rcases Nat.lt_or_ge j k with q | q
          · exact T.out j hj q
          · obtain rfl : j = k := by omega
            exact e)
        generalize (ks[k]).1 = x at *
        have ne : (x == id') = false := beq_eq_false_iff_ne.2 e
        replace e := hid e
        go_wp2
        go_roundw
        case rel => exact ⟨k + 1, hlt, by go_num, T2, BL⟩
        case measure => simp [intOf]; omega
    · have hke : k = ks.length := by omega
      subst hke
      have N := hid (show ¬ Has ks id' from fun ⟨i, hi, hx⟩ => T.out i hi hi hx)
      go_wp2
      go_ret
      exact ⟨-1, rfl, .inl ⟨rfl, N.out⟩, BL.out⟩
set_option maxHeartbeats 2000000 in
set_option maxRecDepth 100000 in
theorem srf (p : Int) (v : Value) (ks : List (Int × List Nat)) (w : World) (h : RdK w v ks) :
    Calls Try.prog 36 #[.agg #[.int .i64 p, v]] w fun e w' => e = .returned (.int .i64 (rF p ks)) ∧ Below w.heap.size w w' := by
  have H := hid h
  obtain ⟨a, cap, rfl, -, hcm, -⟩ := h.parts
  clear h
  unfold maxLen at hcm
  have V := hid (heap_alloc_new w (.cells #[.int .i64 p, .slice a ks.length cap] 34))
  have BB := hid (below_alloc1 w (.cells #[.int .i64 p, .slice a ks.length cap] 34))
  by_cases hn : ks.length < 1 ∨ 3 < ks.length
  · have E := hid (rF_many (p := p) hn)
    by_cases h1 : ks.length < 1
    · replace hn := hid hn
      go_enter Try.func36, Try.ntmps36
      go_wp2
      go_ret
      exact ⟨ret_i E.out.symm, BB.out⟩
    · have h3 : 3 < ks.length := by omega
      replace hn := hid hn
      go_enter Try.func36, Try.ntmps36
      go_wp2
      go_ret
      exact ⟨ret_i E.out.symm, BB.out⟩
  · have h1 : 1 ≤ ks.length := by omega
    have h3 : ks.length ≤ 3 := by omega
    replace hn := hid hn
    go_enter Try.func36, Try.ntmps36
    go_wp2_with fail
    replace H := hid (H.out.below BB.out)
    generalize w.alloc (.cells #[.int .i64 p, .slice a ks.length cap] 34) = w0 at *
    obtain ⟨g, hg⟩ : ∃ g, g = w.heap.size := ⟨_, rfl⟩
    rw [← hg] at V ⊢
    clear hg
    go_loopw [3, 4] (fun i s4 wr => ∃ k : Nat, ∃ u4 : Value, k ≤ ks.length ∧ i = .int .i64 k ∧ s4 = u4 ∧ Hid (∀ j (hj : j < ks.length), j < k → kF ks[j] = 0) ∧ Hid (Below w0.heap.size w0 wr)) (fun i _ _ => ks.length - (intOf i).toNat)
    case atStart => exact ⟨0, _, by omega, rfl, rfl, hid (fun j _ h => absurd h (Nat.not_lt_zero j)), hid (Below.refl _ _)⟩
    case round =>
      obtain ⟨k, v4, hk, rfl, rfl, T, BL⟩ := hrel
      obtain ⟨f0, f1, -, -⟩ := var2_facts (var_below BL.out V.out)
      by_cases hlt : k < ks.length
      · obtain ⟨a', ca', e, -, -, hcs⟩ := (H.out.below BL.out).parts
        cases e
        obtain ⟨b, o, u, rfl, q1, q2, q3⟩ := hcs k hlt
        obtain ⟨pu, cu, rfl, -, -, -⟩ := q3.parts
        have I1 := idx_kf b o ks.length cap k hlt
        have k0 : (0 : Int) ≤ (k : Int) := by omega
        have k1 : (k : Int) < (ks.length : Int) := by omega
        clear hcs q3
        go_wp2_with fail
        refine (l4key _ _ _ _ _ _ _ q1 q2 (ks[k]).2 rfl).mono ?_
        rintro e w' ⟨rfl, hB⟩
        replace BL := hid (BL.out.trans (hB.mono BL.out.size))
        have B2 := hid (BB.out.trans (BL.out.mono BB.out.size))
        have EK : kF ((ks[k]).1, (ks[k]).2) = kF ks[k] := rfl
        rw [EK]
        clear hB EK q1 q2 f0 f1
        by_cases e : kF ks[k] = 0
        · have T2 := hid (show ∀ j (hj : j < ks.length), j < k + 1 → kF ks[j] = 0 from fun j hj hjk => by
            rcases Nat.lt_or_ge j k with q | q
            · exact T.out j hj q
            · obtain rfl : j = k := by omega
              exact e)
          rw [e]
          replace e := hid e
          go_wp2
          go_roundw
          case rel => exact ⟨k + 1, _, hlt, by go_num, rfl, T2, BL⟩
          case measure => simp [intOf]; omega
        · have E := hid (rF_key (p := p) hn.out k hlt T.out e)
          obtain ⟨x, hx⟩ : ∃ x, x = kF ks[k] := ⟨_, rfl⟩
          rw [← hx] at e ⊢
          have X := hid hx
          have ne : (x != 0) = true := by rw [bne_iff_ne]; exact e
          clear hx
          replace e := hid e
          go_wp2
          go_ret
          exact ⟨ret_i (X.out.trans E.out.symm), B2.out⟩
      · have hke : k = ks.length := by omega
        subst hke
        replace T := hid (show ∀ j (hj : j < ks.length), kF ks[j] = 0 from fun j hj => T.out j hj hj)
        replace V := hid (var_below BL.out V.out)
        replace H := hid (H.out.below BL.out)
        replace BB := hid (BB.out.trans (BL.out.mono BB.out.size))
        clear BL
        obtain ⟨w1, hw1⟩ : ∃ w', w' = wr := ⟨_, rfl⟩
        rw [← hw1] at V H BB f0 f1 ⊢
        clear hw1
        go_wp2_with fail
        clear f0 f1
        go_loopw [5] (fun i wr => ∃ k : Nat, 1 ≤ k ∧ k ≤ ks.length ∧ i = .int .i64 k ∧ Hid (∀ j (h : j + 1 < ks.length), j + 1 < k → (ks[j]'(by omega)).1 < (ks[j + 1]).1) ∧ Hid (Below w1.heap.size w1 wr)) (fun i _ => ks.length - (intOf i).toNat)
        case atStart => exact ⟨1, by omega, h1, rfl, hid (fun j _ h => by omega), hid (Below.refl _ _)⟩
        case round =>
          obtain ⟨k, hk1, hk, rfl, R, BL⟩ := hrel
          obtain ⟨f0, f1, -, -⟩ := var2_facts (var_below BL.out V.out)
          by_cases hlt : k < ks.length
          · obtain ⟨a', ca', e, -, -, hcs⟩ := (H.out.below BL.out).parts
            cases e
            obtain ⟨b, o, u, rfl, q1, -, -⟩ := hcs k hlt
            obtain ⟨m, hm⟩ : ∃ m, m = k - 1 := ⟨_, rfl⟩
            have hml : m < ks.length := by omega
            obtain ⟨b', o', u', e, t1, -, -⟩ := hcs m hml
            cases e
            have W1 : (k : Int) - 1 = (m : Int) := by omega
            have W2 : IntKind.i64.wrap (m : Int) = (m : Int) := by rw [IntKind.wrap_i64]; omega
            have I1 := idx_kf b o ks.length cap k hlt
            have I2 := idx_kf b o ks.length cap m hml
            have k0 : (0 : Int) ≤ (k : Int) := by omega
            have k1 : (k : Int) < (ks.length : Int) := by omega
            have m1 : (m : Int) < (ks.length : Int) := by omega
            have em : k = m + 1 := by omega
            have RN : Hid ((ks[m]).1 < (ks[k]).1 → ∀ j (h : j + 1 < ks.length), j + 1 < k + 1 → (ks[j]'(by omega)).1 < (ks[j + 1]).1) := hid (fun hx j h hj => by
              rcases Nat.lt_or_ge (j + 1) k with q | q
              · exact R.out j h q
              · obtain rfl : j = m := by omega
                subst em
                exact hx)
            have RF : Hid (¬ (ks[m]).1 < (ks[k]).1 → ¬ Rise ks) := hid (fun hx hr => by
              subst em
              exact hx (hr m hlt))
            replace em := hid em
            generalize (ks[k]).1 = x at *
            generalize (ks[m]).1 = y at *
            clear hcs hm
            by_cases e : y < x
            · have R2 := hid (RN.out e)
              have le : ¬ x ≤ y := by omega
              have dl : decide (x ≤ y) = false := decide_eq_false le
              go_wp2_with fail
              -- RISES
              refine wp_region_held_drew (S := fun w' => Below wr.heap.size wr w') (by kernel_rfl) (Below.refl _ _).drew (fun hH => ?_)
              refine wpAnyH_take (i := 0) (v := .pointer (some ⟨g, 1, none⟩)) (by simp only [List.getElem?_toArray, List.getElem?_cons_zero]; rfl) (by kernel_rfl) (by kernel_rfl) (by kernel_rfl) (by intro _ _ _ h; exact h) (Or.inl ⟨by rfl, fun w hS => by go_simp⟩) hH ?_
              simp only [Act.put, List.setIfInBounds_toArray, List.set_cons_zero, List.set_cons_succ]
              refine wpAnyH_take (i := 1) (v := .slice (some ⟨b, o, none⟩) ks.length cap) (by simp only [List.getElem?_toArray, List.getElem?_cons_succ, List.getElem?_cons_zero]; rfl) (by kernel_rfl) (by kernel_rfl) (by kernel_rfl) (by intro _ _ _ h; exact h) (Or.inl ⟨by rfl, fun w hS => by (have y0 := cell_kept hS f1; go_simp)⟩) hH ?_
              simp only [Act.put, List.setIfInBounds_toArray, List.set_cons_zero, List.set_cons_succ]
              refine wpAnyH_take (i := 2) (v := .int .i64 (k : Int)) (by simp only [List.getElem?_toArray, List.getElem?_cons_succ, List.getElem?_cons_zero]; rfl) (by kernel_rfl) (by kernel_rfl) (by kernel_rfl) (by intro _ _ _ h; exact h) (Or.inl ⟨by rfl, fun w hS => by go_simp⟩) hH ?_
              simp only [Act.put, List.setIfInBounds_toArray, List.set_cons_zero, List.set_cons_succ]
              refine wpAnyH_take (i := 3) (v := .pointer (some ⟨b, o + k * 2, none⟩)) (by simp only [List.getElem?_toArray, List.getElem?_cons_succ, List.getElem?_cons_zero]; rfl) (by kernel_rfl) (by kernel_rfl) (by kernel_rfl) (by intro _ _ _ h; exact h) (Or.inl ⟨by rfl, fun w hS => by go_simp⟩) hH ?_
              simp only [Act.put, List.setIfInBounds_toArray, List.set_cons_zero, List.set_cons_succ]
              refine wpAnyH_take (i := 4) (v := .pointer (some ⟨b, o + k * 2, none⟩)) (by simp only [List.getElem?_toArray, List.getElem?_cons_succ, List.getElem?_cons_zero]; rfl) (by kernel_rfl) (by kernel_rfl) (by kernel_rfl) (by intro _ _ _ h; exact h) (Or.inl ⟨by rfl, fun w hS => by go_simp⟩) hH ?_
              simp only [Act.put, List.setIfInBounds_toArray, List.set_cons_zero, List.set_cons_succ]
              refine wpAnyH_take (i := 5) (v := .int .i64 x) (by simp only [List.getElem?_toArray, List.getElem?_cons_succ, List.getElem?_cons_zero]; rfl) (by kernel_rfl) (by kernel_rfl) (by kernel_rfl) (by intro _ _ _ h; exact h) (Or.inl ⟨by rfl, fun w hS => by (have y0 := cell_kept hS q1; go_simp)⟩) hH ?_
              simp only [Act.put, List.setIfInBounds_toArray, List.set_cons_zero, List.set_cons_succ]
              refine wpAnyH_take (i := 6) (v := .pointer (some ⟨g, 1, none⟩)) (by simp only [List.getElem?_toArray, List.getElem?_cons_succ, List.getElem?_cons_zero]; rfl) (by kernel_rfl) (by kernel_rfl) (by kernel_rfl) (by intro _ _ _ h; exact h) (Or.inl ⟨by rfl, fun w hS => by go_simp⟩) hH ?_
              simp only [Act.put, List.setIfInBounds_toArray, List.set_cons_zero, List.set_cons_succ]
              refine wpAnyH_take (i := 7) (v := .slice (some ⟨b, o, none⟩) ks.length cap) (by simp only [List.getElem?_toArray, List.getElem?_cons_succ, List.getElem?_cons_zero]; rfl) (by kernel_rfl) (by kernel_rfl) (by kernel_rfl) (by intro _ _ _ h; exact h) (Or.inl ⟨by rfl, fun w hS => by (have y0 := cell_kept hS f1; go_simp)⟩) hH ?_
              simp only [Act.put, List.setIfInBounds_toArray, List.set_cons_zero, List.set_cons_succ]
              refine wpAnyH_take (i := 8) (v := .int .i64 (k : Int)) (by simp only [List.getElem?_toArray, List.getElem?_cons_succ, List.getElem?_cons_zero]; rfl) (by kernel_rfl) (by kernel_rfl) (by kernel_rfl) (by intro _ _ _ h; exact h) (Or.inl ⟨by rfl, fun w hS => by go_simp⟩) hH ?_
              simp only [Act.put, List.setIfInBounds_toArray, List.set_cons_zero, List.set_cons_succ]
              refine wpAnyH_take (i := 9) (v := .int .i64 (m : Int)) (by simp only [List.getElem?_toArray, List.getElem?_cons_succ, List.getElem?_cons_zero]; rfl) (by kernel_rfl) (by kernel_rfl) (by kernel_rfl) (by intro _ _ _ h; exact h) (Or.inl ⟨by rfl, fun w hS => by go_simp⟩) hH ?_
              simp only [Act.put, List.setIfInBounds_toArray, List.set_cons_zero, List.set_cons_succ]
              refine wpAnyH_take (i := 10) (v := .pointer (some ⟨b, o + m * 2, none⟩)) (by simp only [List.getElem?_toArray, List.getElem?_cons_succ, List.getElem?_cons_zero]; rfl) (by kernel_rfl) (by kernel_rfl) (by kernel_rfl) (by intro _ _ _ h; exact h) (Or.inl ⟨by rfl, fun w hS => by go_simp⟩) hH ?_
              simp only [Act.put, List.setIfInBounds_toArray, List.set_cons_zero, List.set_cons_succ]
              refine wpAnyH_take (i := 11) (v := .pointer (some ⟨b, o + m * 2, none⟩)) (by simp only [List.getElem?_toArray, List.getElem?_cons_succ, List.getElem?_cons_zero]; rfl) (by kernel_rfl) (by kernel_rfl) (by kernel_rfl) (by intro _ _ _ h; exact h) (Or.inl ⟨by rfl, fun w hS => by go_simp⟩) hH ?_
              simp only [Act.put, List.setIfInBounds_toArray, List.set_cons_zero, List.set_cons_succ]
              refine wpAnyH_take (i := 12) (v := .int .i64 y) (by simp only [List.getElem?_toArray, List.getElem?_cons_succ, List.getElem?_cons_zero]; rfl) (by kernel_rfl) (by kernel_rfl) (by kernel_rfl) (by intro _ _ _ h; exact h) (Or.inl ⟨by rfl, fun w hS => by (have y0 := cell_kept hS t1; go_simp)⟩) hH ?_
              simp only [Act.put, List.setIfInBounds_toArray, List.set_cons_zero, List.set_cons_succ]
              refine wpAnyH_take (i := 13) (v := .bool false) (by simp only [List.getElem?_toArray, List.getElem?_cons_succ, List.getElem?_cons_zero]; rfl) (by kernel_rfl) (by kernel_rfl) (by kernel_rfl) (by intro _ _ _ h; exact h) (Or.inl ⟨by rfl, fun w hS => by go_simp⟩) hH ?_
              simp only [Act.put, List.setIfInBounds_toArray, List.set_cons_zero, List.set_cons_succ]
              refine wpAnyH_done (by kernel_rfl) ?_ _
              replace BL := hid (BL.out.trans (hH.mono BL.out.size))
              have B2 := hid (BB.out.trans (BL.out.mono BB.out.size))
              clear hH
              -- END RISES
              go_wp2
              go_roundw
              case rel => exact ⟨k + 1, by omega, hlt, by go_num, R2, BL⟩
              case measure => simp [intOf]; omega
            · have E := hid (rF_form (p := p) hn.out T.out (RF.out e))
              have le : x ≤ y := by omega
              have dl : decide (x ≤ y) = true := decide_eq_true le
              go_wp2_with fail
              -- FALLS
              refine wp_region_held_drew (S := fun w' => Below wr.heap.size wr w') (by kernel_rfl) (Below.refl _ _).drew (fun hH => ?_)
              refine wpAnyH_take (i := 0) (v := .pointer (some ⟨g, 1, none⟩)) (by simp only [List.getElem?_toArray, List.getElem?_cons_zero]; rfl) (by kernel_rfl) (by kernel_rfl) (by kernel_rfl) (by intro _ _ _ h; exact h) (Or.inl ⟨by rfl, fun w hS => by go_simp⟩) hH ?_
              simp only [Act.put, List.setIfInBounds_toArray, List.set_cons_zero, List.set_cons_succ]
              refine wpAnyH_take (i := 1) (v := .slice (some ⟨b, o, none⟩) ks.length cap) (by simp only [List.getElem?_toArray, List.getElem?_cons_succ, List.getElem?_cons_zero]; rfl) (by kernel_rfl) (by kernel_rfl) (by kernel_rfl) (by intro _ _ _ h; exact h) (Or.inl ⟨by rfl, fun w hS => by (have y0 := cell_kept hS f1; go_simp)⟩) hH ?_
              simp only [Act.put, List.setIfInBounds_toArray, List.set_cons_zero, List.set_cons_succ]
              refine wpAnyH_take (i := 2) (v := .int .i64 (k : Int)) (by simp only [List.getElem?_toArray, List.getElem?_cons_succ, List.getElem?_cons_zero]; rfl) (by kernel_rfl) (by kernel_rfl) (by kernel_rfl) (by intro _ _ _ h; exact h) (Or.inl ⟨by rfl, fun w hS => by go_simp⟩) hH ?_
              simp only [Act.put, List.setIfInBounds_toArray, List.set_cons_zero, List.set_cons_succ]
              refine wpAnyH_take (i := 3) (v := .pointer (some ⟨b, o + k * 2, none⟩)) (by simp only [List.getElem?_toArray, List.getElem?_cons_succ, List.getElem?_cons_zero]; rfl) (by kernel_rfl) (by kernel_rfl) (by kernel_rfl) (by intro _ _ _ h; exact h) (Or.inl ⟨by rfl, fun w hS => by go_simp⟩) hH ?_
              simp only [Act.put, List.setIfInBounds_toArray, List.set_cons_zero, List.set_cons_succ]
              refine wpAnyH_take (i := 4) (v := .pointer (some ⟨b, o + k * 2, none⟩)) (by simp only [List.getElem?_toArray, List.getElem?_cons_succ, List.getElem?_cons_zero]; rfl) (by kernel_rfl) (by kernel_rfl) (by kernel_rfl) (by intro _ _ _ h; exact h) (Or.inl ⟨by rfl, fun w hS => by go_simp⟩) hH ?_
              simp only [Act.put, List.setIfInBounds_toArray, List.set_cons_zero, List.set_cons_succ]
              refine wpAnyH_take (i := 5) (v := .int .i64 x) (by simp only [List.getElem?_toArray, List.getElem?_cons_succ, List.getElem?_cons_zero]; rfl) (by kernel_rfl) (by kernel_rfl) (by kernel_rfl) (by intro _ _ _ h; exact h) (Or.inl ⟨by rfl, fun w hS => by (have y0 := cell_kept hS q1; go_simp)⟩) hH ?_
              simp only [Act.put, List.setIfInBounds_toArray, List.set_cons_zero, List.set_cons_succ]
              refine wpAnyH_take (i := 6) (v := .pointer (some ⟨g, 1, none⟩)) (by simp only [List.getElem?_toArray, List.getElem?_cons_succ, List.getElem?_cons_zero]; rfl) (by kernel_rfl) (by kernel_rfl) (by kernel_rfl) (by intro _ _ _ h; exact h) (Or.inl ⟨by rfl, fun w hS => by go_simp⟩) hH ?_
              simp only [Act.put, List.setIfInBounds_toArray, List.set_cons_zero, List.set_cons_succ]
              refine wpAnyH_take (i := 7) (v := .slice (some ⟨b, o, none⟩) ks.length cap) (by simp only [List.getElem?_toArray, List.getElem?_cons_succ, List.getElem?_cons_zero]; rfl) (by kernel_rfl) (by kernel_rfl) (by kernel_rfl) (by intro _ _ _ h; exact h) (Or.inl ⟨by rfl, fun w hS => by (have y0 := cell_kept hS f1; go_simp)⟩) hH ?_
              simp only [Act.put, List.setIfInBounds_toArray, List.set_cons_zero, List.set_cons_succ]
              refine wpAnyH_take (i := 8) (v := .int .i64 (k : Int)) (by simp only [List.getElem?_toArray, List.getElem?_cons_succ, List.getElem?_cons_zero]; rfl) (by kernel_rfl) (by kernel_rfl) (by kernel_rfl) (by intro _ _ _ h; exact h) (Or.inl ⟨by rfl, fun w hS => by go_simp⟩) hH ?_
              simp only [Act.put, List.setIfInBounds_toArray, List.set_cons_zero, List.set_cons_succ]
              refine wpAnyH_take (i := 9) (v := .int .i64 (m : Int)) (by simp only [List.getElem?_toArray, List.getElem?_cons_succ, List.getElem?_cons_zero]; rfl) (by kernel_rfl) (by kernel_rfl) (by kernel_rfl) (by intro _ _ _ h; exact h) (Or.inl ⟨by rfl, fun w hS => by go_simp⟩) hH ?_
              simp only [Act.put, List.setIfInBounds_toArray, List.set_cons_zero, List.set_cons_succ]
              refine wpAnyH_take (i := 10) (v := .pointer (some ⟨b, o + m * 2, none⟩)) (by simp only [List.getElem?_toArray, List.getElem?_cons_succ, List.getElem?_cons_zero]; rfl) (by kernel_rfl) (by kernel_rfl) (by kernel_rfl) (by intro _ _ _ h; exact h) (Or.inl ⟨by rfl, fun w hS => by go_simp⟩) hH ?_
              simp only [Act.put, List.setIfInBounds_toArray, List.set_cons_zero, List.set_cons_succ]
              refine wpAnyH_take (i := 11) (v := .pointer (some ⟨b, o + m * 2, none⟩)) (by simp only [List.getElem?_toArray, List.getElem?_cons_succ, List.getElem?_cons_zero]; rfl) (by kernel_rfl) (by kernel_rfl) (by kernel_rfl) (by intro _ _ _ h; exact h) (Or.inl ⟨by rfl, fun w hS => by go_simp⟩) hH ?_
              simp only [Act.put, List.setIfInBounds_toArray, List.set_cons_zero, List.set_cons_succ]
              refine wpAnyH_take (i := 12) (v := .int .i64 y) (by simp only [List.getElem?_toArray, List.getElem?_cons_succ, List.getElem?_cons_zero]; rfl) (by kernel_rfl) (by kernel_rfl) (by kernel_rfl) (by intro _ _ _ h; exact h) (Or.inl ⟨by rfl, fun w hS => by (have y0 := cell_kept hS t1; go_simp)⟩) hH ?_
              simp only [Act.put, List.setIfInBounds_toArray, List.set_cons_zero, List.set_cons_succ]
              refine wpAnyH_take (i := 13) (v := .bool true) (by simp only [List.getElem?_toArray, List.getElem?_cons_succ, List.getElem?_cons_zero]; rfl) (by kernel_rfl) (by kernel_rfl) (by kernel_rfl) (by intro _ _ _ h; exact h) (Or.inl ⟨by rfl, fun w hS => by go_simp⟩) hH ?_
              simp only [Act.put, List.setIfInBounds_toArray, List.set_cons_zero, List.set_cons_succ]
              refine wpAnyH_done (by kernel_rfl) ?_ _
              replace BL := hid (BL.out.trans (hH.mono BL.out.size))
              have B2 := hid (BB.out.trans (BL.out.mono BB.out.size))
              clear hH
              -- END FALLS
              go_wp2
              go_ret
              exact ⟨ret_i E.out.symm, B2.out⟩
          · have hke : k = ks.length := by omega
            subst hke
            have RR := hid (show Rise ks from fun j h => R.out j h h)
            replace V := hid (var_below BL.out V.out)
            replace H := hid (H.out.below BL.out)
            replace BB := hid (BB.out.trans (BL.out.mono BB.out.size))
            clear BL
            go_wp2_with fail
            refine (l4find _ _ _ _ ks _ V.out H.out (by omega)).mono ?_
            rintro e w' ⟨r, rfl, hr, hB⟩
            replace BB := hid (BB.out.trans (hB.mono BB.out.size))
            clear hB f0 f1
            rcases hr with ⟨rfl, hno⟩ | ⟨i, hi, rfl, hx, -⟩
            · have E := hid (rF_none (p := p) hn.out T.out RR.out hno)
              replace hno := hid hno
              go_wp2
              go_ret
              exact ⟨ret_i E.out.symm, BB.out⟩
            · have E := hid (rF_ok (p := p) hn.out T.out RR.out ⟨i, hi, hx⟩)
              replace hx := hid hx
              have i0 : (0 : Int) ≤ (i : Int) := by omega
              go_wp2
              go_ret
              exact ⟨ret_i E.out.symm, BB.out⟩
end Go.Proofs.Ytifgcffifffdnaj.W
