/-
  Two lists of numbers, and two windows, that are the same: what the model's and the program's functions answer.
-/
import Derived.Test.YtmamdbmkjipahamSlZE
import Derived.Test.YtmamdbmkjipahamBase
namespace Go.Proofs.Ytmamdbmkjipaham.W
open Go.ChangeShapes Go.WideShapes Go.ChangeAt Go.RowKit
open Go.Proofs.Ytmamdbmkjipaham.M

/-- Both are one list. -/
def sameZ (la lb : List Int) : Bool := decide (la = lb)
theorem sameZ_no_len {la lb : List Int} (h : ¬ la.length = lb.length) : sameZ la lb = false := decide_eq_false fun e => h (by rw [e])
theorem sameZ_no_at {la lb : List Int} (k : Nat) (h1 : k < la.length) (h2 : k < lb.length) (h : ¬ la[k] = lb[k]) : sameZ la lb = false := decide_eq_false fun e => h (by subst e; rfl)
theorem sameZ_yes {la lb : List Int} (h : la.length = lb.length) (hs : ∀ j (h1 : j < la.length) (h2 : j < lb.length), la[j] = lb[j]) : sameZ la lb = true := decide_eq_true (List.ext_getElem h fun j h1 h2 => hs j h1 h2)
set_option maxRecDepth 100000 in
theorem sameS1 (va vb : Value) (la lb : List Int) (w : World) (ha : RdZ w va la) (hb : RdZ w vb lb) :
    Calls Try.prog 10 #[va, vb] w fun e w' => e = .returned (.bool (sameZ la lb)) ∧ Below w.heap.size w w' := by
  obtain ⟨a, capa, rfl, q1, q2, hca⟩ := ha.parts
  have hmx : la.length ≤ maxLen := Nat.le_trans q1 q2
  unfold maxLen at hmx
  clear q1 q2
  obtain ⟨b, capb, rfl, -, -, hcb⟩ := hb.parts
  clear ha hb
  by_cases hl : la.length = lb.length
  · have HL := hid hl
    go_enter Try.func10, Try.ntmps10
    go_wp2
    go_loopw [5] (fun i wr => ∃ k : Nat, k ≤ la.length ∧ i = .int .i64 k ∧ Hid (Below w.heap.size w wr) ∧ Hid (∀ j (h1 : j < la.length) (h2 : j < lb.length), j < k → la[j] = lb[j])) (fun i _ => la.length - (intOf i).toNat)
    case atStart => exact ⟨0, by omega, rfl, hid (Below.refl _ _), hid fun j _ _ h => absurd h (Nat.not_lt_zero _)⟩
    case round =>
      obtain ⟨k, hk, rfl, hb, hs⟩ := hrel
      by_cases hlt : k < la.length
      · obtain ⟨ba, oa, rfl, ca⟩ := hca k hlt
        obtain ⟨bb, ob, rfl, cb⟩ := hcb k (by omega)
        have ca := cell_kept hb.out ca
        have cb := cell_kept hb.out cb
        clear hca hcb
        by_cases he : la[k] = lb[k]
        · have HE := hid he
          rw [← he] at cb
          clear he
          go_wp2
          go_quiet (fail)
          go_wp2
          go_roundw
          case rel => exact ⟨k + 1, by omega, by go_num, hid (below_drewN hb.out _), hid fun j h1 h2 h3 => by
            rcases Nat.lt_or_ge j k with q | q
            · exact hs.out j h1 h2 q
            · obtain rfl : j = k := by omega
              exact HE.out⟩
          case measure => simp [intOf]; omega
        · have E := hid (sameZ_no_at k hlt (by omega) he)
          go_wp2
          go_quiet (fail)
          go_wp2
          go_ret
          exact ⟨ret_b E.out.symm, below_drewN hb.out _⟩
      · have E := hid (sameZ_yes HL.out fun j h1 h2 => hs.out j h1 h2 (by omega))
        have hk8 : k = la.length := by omega
        subst hk8
        clear hl
        go_wp2
        go_ret
        exact ⟨ret_b E.out.symm, hb.out⟩
  · have E := hid (sameZ_no_len hl)
    go_enter Try.func10, Try.ntmps10
    go_wp2
    go_ret
    exact ⟨ret_b E.out.symm, Below.refl _ _⟩
set_option maxRecDepth 100000 in
theorem sameI1 (va vb : Value) (la lb : List Int) (w : World) (ha : RdZ w va la) (hb : RdZ w vb lb) :
    Calls Try.prog 12 #[va, vb] w fun e w' => e = .returned (.bool (sameZ la lb)) ∧ Below w.heap.size w w' := by
  obtain ⟨a, capa, rfl, q1, q2, hca⟩ := ha.parts
  have hmx : la.length ≤ maxLen := Nat.le_trans q1 q2
  unfold maxLen at hmx
  clear q1 q2
  obtain ⟨b, capb, rfl, -, -, hcb⟩ := hb.parts
  clear ha hb
  by_cases hl : la.length = lb.length
  · have HL := hid hl
    go_enter Try.func12, Try.ntmps12
    go_wp2
    go_loopw [13] (fun i wr => ∃ k : Nat, k ≤ la.length ∧ i = .int .i64 k ∧ Hid (Below w.heap.size w wr) ∧ Hid (∀ j (h1 : j < la.length) (h2 : j < lb.length), j < k → la[j] = lb[j])) (fun i _ => la.length - (intOf i).toNat)
    case atStart => exact ⟨0, by omega, rfl, hid (Below.refl _ _), hid fun j _ _ h => absurd h (Nat.not_lt_zero _)⟩
    case round =>
      obtain ⟨k, hk, rfl, hb, hs⟩ := hrel
      by_cases hlt : k < la.length
      · obtain ⟨ba, oa, rfl, ca⟩ := hca k hlt
        obtain ⟨bb, ob, rfl, cb⟩ := hcb k (by omega)
        have ca := cell_kept hb.out ca
        have cb := cell_kept hb.out cb
        clear hca hcb
        by_cases he : la[k] = lb[k]
        · have HE := hid he
          rw [← he] at cb
          clear he
          go_wp2
          go_quiet (fail)
          go_wp2
          go_roundw
          case rel => exact ⟨k + 1, by omega, by go_num, hid (below_drewN hb.out _), hid fun j h1 h2 h3 => by
            rcases Nat.lt_or_ge j k with q | q
            · exact hs.out j h1 h2 q
            · obtain rfl : j = k := by omega
              exact HE.out⟩
          case measure => simp [intOf]; omega
        · have E := hid (sameZ_no_at k hlt (by omega) he)
          go_wp2
          go_quiet (fail)
          go_wp2
          go_ret
          exact ⟨ret_b E.out.symm, below_drewN hb.out _⟩
      · have E := hid (sameZ_yes HL.out fun j h1 h2 => hs.out j h1 h2 (by omega))
        have hk8 : k = la.length := by omega
        subst hk8
        have hl3 : ¬ ((la.length : Int) < (lb.length : Int)) := by omega
        go_wp2
        go_ret
        exact ⟨ret_b E.out.symm, hb.out⟩
  · have E := hid (sameZ_no_len hl)
    go_enter Try.func12, Try.ntmps12
    go_wp2
    go_ret
    exact ⟨ret_b E.out.symm, Below.refl _ _⟩
set_option maxRecDepth 100000 in
theorem ssmw (p q : Int) (va vb : Value) (la lb : List Int) (w : World) (ha : RdZ w va la) (hb : RdZ w vb lb) (t : Bool) (ht : (p = q ∧ t = sameZ la lb) ∨ (¬ p = q ∧ t = false)) :
    Calls Try.prog 5 #[.agg #[.int .i64 p, va], .agg #[.int .i64 q, vb]] w fun e w' => e = .returned (.bool t) ∧ Below w.heap.size w w' := by
  have HA := hid ha
  have HB := hid hb
  obtain ⟨a, ca, rfl, -, -, -⟩ := ha.parts
  obtain ⟨b, cb, rfl, -, -, -⟩ := hb.parts
  clear ha hb
  rcases ht with ⟨rfl, rfl⟩ | ⟨hn, rfl⟩
  · go_enter Try.func5, Try.ntmps5
    go_wp2_with fail
    refine (sameS1 _ _ la lb _ (HA.out.below (below_alloc2 w _ _)) (HB.out.below (below_alloc2 w _ _))).mono ?_
    rintro e w' ⟨rfl, hB⟩
    have BB := hid ((below_alloc2 w _ _).trans (hB.mono (by simp; omega)))
    clear hB
    obtain ⟨t, ht⟩ : ∃ t, t = sameZ la lb := ⟨_, rfl⟩
    rw [← ht]
    have HT := hid ht
    clear ht
    go_wp2
    go_ret
    exact ⟨ret_b HT.out, BB.out⟩
  · go_enter Try.func5, Try.ntmps5
    go_wp2
    go_ret
    exact ⟨rfl, below_alloc2 w _ _⟩
set_option maxRecDepth 100000 in
theorem ismw (p q : Int) (va vb : Value) (la lb : List Int) (w : World) (ha : RdZ w va la) (hb : RdZ w vb lb) (t : Bool) (ht : (p = q ∧ t = sameZ la lb) ∨ (¬ p = q ∧ t = false)) :
    Calls Try.prog 7 #[.agg #[.int .i64 p, va], .agg #[.int .i64 q, vb]] w fun e w' => e = .returned (.bool t) ∧ Below w.heap.size w w' := by
  have HA := hid ha
  have HB := hid hb
  obtain ⟨a, ca, rfl, -, -, -⟩ := ha.parts
  obtain ⟨b, cb, rfl, -, -, -⟩ := hb.parts
  clear ha hb
  rcases ht with ⟨rfl, rfl⟩ | ⟨hn, rfl⟩
  · go_enter Try.func7, Try.ntmps7
    go_wp2_with fail
    refine (sameI1 _ _ la lb _ (HA.out.below (below_alloc2 w _ _)) (HB.out.below (below_alloc2 w _ _))).mono ?_
    rintro e w' ⟨rfl, hB⟩
    have BB := hid ((below_alloc2 w _ _).trans (hB.mono (by simp; omega)))
    clear hB
    obtain ⟨t, ht⟩ : ∃ t, t = sameZ la lb := ⟨_, rfl⟩
    rw [← ht]
    have HT := hid ht
    clear ht
    go_wp2
    go_ret
    exact ⟨ret_b HT.out, BB.out⟩
  · go_enter Try.func7, Try.ntmps7
    go_wp2
    go_ret
    exact ⟨rfl, below_alloc2 w _ _⟩
end Go.Proofs.Ytmamdbmkjipaham.W
