/-
  How the exact laws measure rings: what they answer.
-/
import Derived.Test.YtifgcffifffdnajBase
import Derived.Test.YtifgcffifffdnajRng
namespace Go.Proofs.Ytifgcffifffdnaj.W
open Go.ChangeShapes Go.WideShapes Go.ChangeAt Go.RowKit
open Go.Proofs.Ytifgcffifffdnaj.M

theorem idx_k (b o n c j : Nat) (hj : j < n) (w : World) : (Instr.indexAt 22 (.slice (some ⟨b, o, none⟩) n c) (.int .i64 (j : Int))).run Try.prog w = .ok (.pointer (some ⟨b, o + j * 2, none⟩)) w := by
  have hs : ∀ w : World, (sizeOf (Try.prog.elem 22)).run Try.prog w = .ok 2 w := fun _ => by kernel_rfl
  rw [run_indexAt_slice (P := Try.prog) w 22 _ n c .i64 (j : Int) (by kernel_rfl)]
  simp [hs, hj, Result.andThen, Addr.add_lit]
/-- What is left behind n more, -1 where there is not so much. -/
def szN (left : Int) (n : Nat) : Int := if left - n < 0 then -1 else left - n
set_option maxRecDepth 100000 in
theorem szB (a : Option Addr) (n c : Nat) (left : Int) (w : World) (h0 : 0 ≤ left) (h1 : left ≤ 1048576) (hn : n ≤ maxLen) :
    Calls Try.prog 45 #[.slice a n c, .int .i64 left] w fun e w' => e = .returned (.int .i64 (szN left n)) ∧ Below w.heap.size w w' := by
  unfold maxLen at hn
  unfold szN
  by_cases h : left - n < 0
  · rw [if_pos h]
    go_enter Try.func45, Try.ntmps45
    go_wp2
    go_ret
    exact ⟨rfl, Below.refl _ _⟩
  · rw [if_neg h]
    go_enter Try.func45, Try.ntmps45
    go_wp2
    go_ret
    exact ⟨rfl, Below.refl _ _⟩
set_option maxRecDepth 100000 in
theorem szK (p : Int) (a : Option Addr) (n c : Nat) (left : Int) (w : World) (h0 : 0 ≤ left) (h1 : left ≤ 1048576) (hn : n ≤ maxLen) :
    Calls Try.prog 18 #[.agg #[.int .i64 p, .slice a n c], .int .i64 left] w fun e w' => e = .returned (.int .i64 (szN left n)) ∧ Below w.heap.size w w' := by
  go_enter Try.func18, Try.ntmps18
  go_wp2_with fail
  refine (szB _ _ _ _ _ h0 h1 hn).mono ?_
  rintro e w' ⟨rfl, hB⟩
  have HB := hid ((below_alloc1 w _).trans (hB.mono (by simp)))
  clear hB
  by_cases h : left - n < 0
  · have E := hid (show szN left n = -1 by rw [szN, if_pos h])
    rw [E.out]
    go_wp2
    go_ret
    exact ⟨congrArg (fun z => Ending.returned (.int .i64 z)) E.out.symm, HB.out⟩
  · have e : szN left n = left - n := by rw [szN, if_neg h]
    obtain ⟨r, hr⟩ : ∃ r, r = szN left n := ⟨_, rfl⟩
    have g : 0 ≤ r := by rw [hr, e]; omega
    rw [← hr]
    have E := hid hr
    clear e hr
    go_wp2
    go_ret
    exact ⟨congrArg (fun z => Ending.returned (.int .i64 z)) E.out, HB.out⟩
/-- What is left of so much behind all that a slice of keys has; -1 where there is not so much. -/
def szS (left : Int) (ks : List (Int × List Nat)) : Int := if left < ks.length + tot ks then -1 else left - (ks.length + tot ks)
set_option maxRecDepth 100000 in
theorem szKS (v : Value) (ks : List (Int × List Nat)) (left : Int) (w : World) (h : RdK w v ks) (h0 : 0 ≤ left) (h1 : left ≤ 1048576) :
    Calls Try.prog 35 #[v, .int .i64 left] w fun e w' => e = .returned (.int .i64 (szS left ks)) ∧ Below w.heap.size w w' := by
  have H := hid h
  obtain ⟨a, cap, rfl, hc, hm, -⟩ := h.parts
  clear h
  unfold maxLen at hm
  by_cases hl : left - ks.length < 0
  · rw [show szS left ks = -1 by rw [szS, if_pos (by omega)]]
    go_enter Try.func35, Try.ntmps35
    go_wp2
    go_ret
    exact ⟨rfl, Below.refl _ _⟩
  · go_enter Try.func35, Try.ntmps35
    go_wp2_with fail
    go_loopw [1, 5] (fun s1 s4 ws => ∃ k : Nat, ∃ r : Int, k ≤ ks.length ∧ 0 ≤ r ∧ r ≤ left ∧ Hid (r = left - (ks.length + tot (ks.take k))) ∧ s1 = .int .i64 r ∧ s4 = .int .i64 k ∧ Hid (Below w.heap.size w ws)) (fun _ s4 _ => ks.length - (intOf s4).toNat)
    case atStart => exact ⟨0, _, by omega, by omega, by omega, hid (by simp [tot]), rfl, rfl, hid (Below.refl _ _)⟩
    case round =>
      obtain ⟨k, r, hk, r0, r1, hr, rfl, rfl, BL⟩ := hrel
      by_cases hlt : k < ks.length
      · obtain ⟨a', cap', e, -, -, hcs⟩ := (H.out.below BL.out).parts
        cases e
        obtain ⟨b, o, u, rfl, q1, q2, q3⟩ := hcs k hlt
        obtain ⟨pu, cu, rfl, hlu, hmu, -⟩ := q3.parts
        have T := hid (tot_take ks k hlt)
        have L := hid (tot_le ks (k + 1))
        have hn := show (ks[k]).2.length ≤ maxLen by omega
        obtain ⟨n, en⟩ : ∃ n, n = (ks[k]).2.length := ⟨_, rfl⟩
        rw [← en] at q2 hn
        replace en := hid en
        generalize (ks[k]).1 = id' at *
        clear q3 hcs hmu hlu
        have I1 := idx_k b o ks.length cap k hlt
        have k0 : (0 : Int) ≤ (k : Int) := by omega
        have k1 : (k : Int) < (ks.length : Int) := by omega
        go_wp2_with fail
        refine (szK _ _ _ _ _ _ r0 (by omega) hn).mono ?_
        rintro e w' ⟨rfl, hB⟩
        replace BL := hid (BL.out.trans (hB.mono BL.out.size))
        clear hB q1 q2
        by_cases h : r - n < 0
        · have E := hid (show szN r n = -1 by rw [szN, if_pos h])
          have E2 : Hid (szS left ks = -1) := by
            have h1 := hr.out
            have h2 := T.out
            have h3 := L.out
            have h4 := en.out
            show szS left ks = -1
            rw [szS, if_pos (by omega)]
          rw [E.out]
          go_wp2
          go_ret
          exact ⟨congrArg (fun z => Ending.returned (.int .i64 z)) E2.out.symm, BL.out⟩
        · have e : szN r n = r - n := by rw [szN, if_neg h]
          obtain ⟨r', hr'⟩ : ∃ r', r' = szN r n := ⟨_, rfl⟩
          have g : 0 ≤ r' := by rw [hr', e]; omega
          have g2 : r' ≤ left := by rw [hr', e]; omega
          have E : Hid (r' = left - (ks.length + tot (ks.take (k + 1)))) := by
            have h1 := hr.out
            have h2 := T.out
            have h4 := en.out
            show r' = _
            rw [hr', e]
            omega
          rw [← hr']
          clear e hr' h
          go_wp2
          go_roundw
          case rel => exact ⟨k + 1, r', hlt, g, g2, E, rfl, by go_num, BL⟩
          case measure => simp [intOf]; omega
      · have hke : k = ks.length := by omega
        subst hke
        have E : Hid (szS left ks = r) := by
          have := hr.out
          rw [List.take_of_length_le (Nat.le_refl _)] at this
          show szS left ks = r
          rw [szS, if_neg (by omega), this]
        go_wp2
        go_ret
        exact ⟨congrArg (fun z => Ending.returned (.int .i64 z)) E.out.symm, BL.out⟩
set_option maxRecDepth 100000 in
theorem szR (p : Int) (v : Value) (ks : List (Int × List Nat)) (left : Int) (w : World) (h : RdK w v ks) (h0 : 0 ≤ left) (h1 : left ≤ 1048576) :
    Calls Try.prog 9 #[.agg #[.int .i64 p, v], .int .i64 left] w fun e w' => e = .returned (.int .i64 (szS left ks)) ∧ Below w.heap.size w w' := by
  have H := hid h
  obtain ⟨a, cap, rfl, hc, hm, -⟩ := h.parts
  clear h
  go_enter Try.func9, Try.ntmps9
  go_wp2_with fail
  refine (szKS _ ks _ _ (H.out.below (below_alloc1 w _)) h0 h1).mono ?_
  rintro e w' ⟨rfl, hB⟩
  have HB := hid ((below_alloc1 w _).trans (hB.mono (by simp)))
  clear hB
  by_cases h : left < ks.length + tot ks
  · have E := hid (show szS left ks = -1 by rw [szS, if_pos h])
    rw [E.out]
    go_wp2
    go_ret
    exact ⟨congrArg (fun z => Ending.returned (.int .i64 z)) E.out.symm, HB.out⟩
  · have e : szS left ks = left - (ks.length + tot ks) := by rw [szS, if_neg h]
    obtain ⟨r, hr⟩ : ∃ r, r = szS left ks := ⟨_, rfl⟩
    have g : 0 ≤ r := by rw [hr, e]; omega
    rw [← hr]
    have E := hid hr
    clear e hr
    go_wp2
    go_ret
    exact ⟨congrArg (fun z => Ending.returned (.int .i64 z)) E.out, HB.out⟩
end Go.Proofs.Ytifgcffifffdnaj.W
