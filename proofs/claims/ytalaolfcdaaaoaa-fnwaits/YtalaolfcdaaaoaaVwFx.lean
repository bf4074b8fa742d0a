/-
  Where a node stands in a view: what l8Find of the model answers.
-/
import Derived.Test.YtalaolfcdaaaoaaVwS
import Derived.Test.YtalaolfcdaaaoaaLetV
import Derived.Test.YtalaolfcdaaaoaaLetF
namespace Go.Proofs.Ytalaolfcdaaaoaa.W
open Go.ChangeShapes Go.WideShapes Go.ChangeAt Go.RowKit
open Go.Proofs.Ytalaolfcdaaaoaa.M

/-- Where the first claim of a node stands; -1 where there is none. -/
def fdI (cs : List Clm) (n : Int) : Int := if hasN cs n then (lb cs n : Int) else -1
set_option maxHeartbeats 1000000 in
set_option maxRecDepth 100000 in
theorem s8f (v : Value) (cs : List Clm) (n : Int) (w : World) (h : RdC w v cs) (hp : cs.Pairwise (fun a b => a.n < b.n)) :
    Calls Try.prog 98 #[v, .int .i64 n] w fun e w' => e = .returned (.int .i64 (fdI cs n)) ∧ Below w.heap.size w w' := by
  have H := hid h
  have HP := hid hp
  obtain ⟨a, cap, rfl, hc, hm, -⟩ := h.parts
  have hmx : cs.length ≤ 9223372036854775807 := by unfold maxLen at hm; omega
  clear h hp hc hm
  go_enter Try.func98, Try.ntmps98
  go_wp2_with fail
  go_loopw [5] (fun i wr => ∃ k : Nat, k ≤ cs.length ∧ i = .int .i64 k ∧ Hid (Below w.heap.size w wr) ∧ Hid (∀ j (hj : j < cs.length), j < k → cs[j].n ≠ n)) (fun i _ => cs.length - (intOf i).toNat)
  case atStart => exact ⟨0, by omega, rfl, hid (Below.refl _ _), hid fun j _ q => by omega⟩
  case round =>
    obtain ⟨k, hk, rfl, BL, OK⟩ := hrel
    by_cases hlt : k < cs.length
    · obtain ⟨a', cap', e, -, -, hcs⟩ := (H.out.below BL.out).parts
      cases e
      obtain ⟨b, o, rfl, q1⟩ := hcs k hlt
      obtain ⟨c0, -, -, -⟩ := c_cells q1
      have I1 := idx_ci b o cs.length cap k hlt
      clear q1 hcs
      by_cases hn : cs[k].n = n
      · have E := hid (show fdI cs n = (k : Int) by
          obtain ⟨e1, e2⟩ := lb_of HP.out hlt hn
          rw [fdI, if_pos e2, e1])
        go_wp2
        go_ret
        exact ⟨ret_vi E.out.symm, BL.out⟩
      · have OK2 := hid (show ∀ j (hj : j < cs.length), j < k + 1 → cs[j].n ≠ n from fun j hj q => by
          rcases Nat.lt_or_ge j k with q2 | q2
          · exact OK.out j hj q2
          · obtain rfl : j = k := by omega
            exact hn)
        go_wp2
        go_roundw
        case rel => exact ⟨k + 1, hlt, by go_num, BL, OK2⟩
        case measure => simp [intOf]; omega
    · have E := hid (show fdI cs n = -1 by
        rw [fdI, if_neg]
        rw [Bool.not_eq_true]
        exact hasN_none fun j hj => OK.out j hj (by omega))
      go_wp2
      go_ret
      exact ⟨ret_vi E.out.symm, BL.out⟩
/-- What is told of a view: a code, the claims that v reads, whether it changed. -/
theorem rdC_one {w : World} {g : Nat} {c : Clm} {T : TypeId} (h : w.heap[g]? = some (.cells #[.int .i64 c.n, .int .i64 c.i, .int .i64 c.s, .int .i64 c.m] T)) : RdC w (.slice (some ⟨g, 0, none⟩) 1 1) [c] :=
  ⟨_, 1, rfl, Nat.le_refl _, by unfold maxLen; omega, fun i hi => ⟨g, 0, rfl, fun t x q => by
    obtain rfl : i = 0 := by simpa using hi
    rw [cell_of_row w g _ _ _ _ h]
    simpa [crow] using q⟩⟩
theorem owC_one {w : World} {base g : Nat} {c : Clm} (h : w.heap[g]? = some (.cells #[.int .i64 c.n, .int .i64 c.i, .int .i64 c.s, .int .i64 c.m] 38)) (hb : base ≤ g) : OwC w base (.slice (some ⟨g, 0, none⟩) 1 1) [c] :=
  ⟨rfl, .inr ⟨g, 1, _, rfl, hb, h, Nat.le_refl _, by unfold maxLen; omega, rfl, rfl⟩⟩
theorem below_st3 {B : Nat} {w w' : World} {g : Nat} (x y z : Value) (h : Below B w w') (hg : B ≤ g) : Below B w (((w'.setCell ⟨g, 0, none⟩ x).setCell ⟨g, 1, none⟩ y).setCell ⟨g, 2, none⟩ z) :=
  ((h.setCell (p := ⟨g, 0, none⟩) hg x).setCell (p := ⟨g, 1, none⟩) hg y).setCell (p := ⟨g, 2, none⟩) hg z
theorem OwC.st3 {w : World} {base g : Nat} {v : Value} {cs : List Clm} (h : OwC w base v cs) (hg : g < base) (x y z : Value) : OwC (((w.setCell ⟨g, 0, none⟩ x).setCell ⟨g, 1, none⟩ y).setCell ⟨g, 2, none⟩ z) base v cs :=
  ownsRow_setCell_below (ownsRow_setCell_below (ownsRow_setCell_below h (a := ⟨g, 0, none⟩) hg x) (a := ⟨g, 1, none⟩) hg y) (a := ⟨g, 2, none⟩) hg z
end Go.Proofs.Ytalaolfcdaaaoaa.W
