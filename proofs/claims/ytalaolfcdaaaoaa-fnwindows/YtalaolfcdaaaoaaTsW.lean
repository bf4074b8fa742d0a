/-
  A window as the program works with it: what isOld, numbersRise and takenSetOf answer.
-/
import Derived.Test.YtalaolfcdaaaoaaWinF
import Derived.Test.YtalaolfcdaaaoaaTkM
import Derived.Test.YtalaolfcdaaaoaaWithin
namespace Go.Proofs.Ytalaolfcdaaaoaa.W
open Go.ChangeShapes Go.WideShapes Go.ChangeAt Go.RowKit
open Go.Proofs.Ytalaolfcdaaaoaa.M

theorem wrapT {top : Int} (h : -1 ≤ top ∧ top ≤ 1000000000) : IntKind.i64.wrap (top - 16) = top - 16 := by rw [IntKind.wrap_i64]; omega
set_option maxRecDepth 100000 in
theorem iold (n top : Int) (w : World) (h : -1 ≤ top ∧ top ≤ 1000000000) :
    Calls Try.prog 122 #[.int .i64 n, .int .i64 top] w fun e w' => e = .returned (.bool (decide (n ≤ top - 16))) ∧ w' = w := by
  have hw := wrapT h
  clear h
  go_enter Try.func122, Try.ntmps122
  go_wp2
  go_ret
  exact ⟨rfl, rfl⟩
set_option maxHeartbeats 1000000 in
set_option maxRecDepth 100000 in
theorem inris (v : Value) (l : List Int) (w : World) (h : RdZ w v l) :
    Calls Try.prog 123 #[v] w fun e w' => e = .returned (.bool (risB l)) ∧ Below w.heap.size w w' := by
  obtain ⟨a, ca, rfl, q1, q2, hc⟩ := h.parts
  have hmx : l.length ≤ maxLen := Nat.le_trans q1 q2
  unfold maxLen at hmx
  clear q1 q2 h
  go_enter Try.func123, Try.ntmps123
  go_wp2_with fail
  go_loopw [3] (fun i wr => ∃ k : Nat, 1 ≤ k ∧ (k ≤ l.length ∨ k = 1) ∧ i = .int .i64 k ∧ Hid (Below w.heap.size w wr) ∧ Hid (∀ j (h1 : j + 1 < l.length), j + 1 < k → l[j] < l[j + 1])) (fun i _ => l.length - (intOf i).toNat)
  case atStart => exact ⟨1, by omega, .inr rfl, rfl, hid (Below.refl _ _), hid fun j _ h => by omega⟩
  case round =>
    obtain ⟨k, hk1, hk, rfl, HB, HA⟩ := hrel
    by_cases hlt : k < l.length
    · obtain ⟨b, o, rfl, ck⟩ := hc k hlt
      obtain ⟨b', o', eb, cj⟩ := hc (k - 1) (by omega)
      cases eb
      obtain ⟨m, hm⟩ : ∃ m, m = k - 1 := ⟨_, rfl⟩
      obtain rfl : k = m + 1 := by omega
      simp only [Nat.add_sub_cancel] at cj
      have ck := cell_kept HB.out ck
      have cj := cell_kept HB.out cj
      clear hc hm
      by_cases hd : l[m + 1] ≤ l[m]
      · have E := hid (ris_no l m hlt hd)
        go_wp2
        go_quiet (fail)
        go_wp2
        go_ret
        exact ⟨ret_b E.out.symm, below_drewN HB.out _⟩
      · have E := hid (show l[m] < l[m + 1] by omega)
        go_wp2
        go_quiet (fail)
        go_wp2
        go_roundw
        case rel => exact ⟨m + 1 + 1, by omega, .inl (by omega), by go_num, hid (below_drewN HB.out _), hid fun j h1 h2 => by
          rcases Nat.lt_or_ge j m with q | q
          · exact HA.out j h1 (by omega)
          · obtain rfl : j = m := by omega
            exact E.out⟩
        case measure => simp [intOf]; omega
    · have E := hid (ris_of l fun j h1 => HA.out j h1 (by omega))
      have hnl : ¬ (k : Int) < (l.length : Int) := by omega
      go_wp2
      go_ret
      exact ⟨ret_b E.out.symm, HB.out⟩
end Go.Proofs.Ytalaolfcdaaaoaa.W
