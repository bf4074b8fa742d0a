/-
  Bounds, how many there are: what the program's within and nodeSpan answer.
-/
import Derived.WalkSpells
import Derived.Test.YtemkokgejohlbaaInWalks
import Derived.Test.YtemkokgejohlbaaArr
namespace Go.Proofs.Ytemkokgejohlbaa.W
open Go.ChangeShapes Go.WideShapes Go.ChangeAt Go.RowKit
open Go.Proofs.Ytemkokgejohlbaa.M

def sp3 (s : Int × Int × Int) : List Value := [.int .i64 s.1, .int .i64 s.2.1, .int .i64 s.2.2]
def rowSp : List (Int × Int × Int) → List Value
  | [] => []
  | s :: r => sp3 s ++ rowSp r
theorem rowSp_len : ∀ r, (rowSp r).length = r.length * 3
  | [] => rfl
  | s :: r => by rw [rowSp, List.length_append, rowSp_len r, List.length_cons]; simp [sp3]; omega
theorem rowSp_get : ∀ (r : List (Int × Int × Int)) (j : Nat) (hj : j < r.length) (t : Nat), t < 3 → (rowSp r)[j * 3 + t]? = (sp3 r[j])[t]?
  | [], j, hj, _, _ => by simp at hj
  | s :: r, 0, hj, t, ht => by
    rw [rowSp, List.getElem?_append_left (by simp [sp3]; omega)]
    simp
  | s :: r, j + 1, hj, t, ht => by
    have := rowSp_get r j (by simpa using hj) t ht
    rw [rowSp, List.getElem?_append_right (by simp [sp3]; omega), show (sp3 s).length = 3 from rfl, show (j + 1) * 3 + t - 3 = j * 3 + t by omega, this]
    simp
/-- All are within their bounds. -/
def inS (r : List (Int × Int × Int)) : Bool := r.all fun s => inB s.1 s.2.1 s.2.2
theorem inS_no {r : List (Int × Int × Int)} {k : Nat} (hk : k < r.length) (h : inB r[k].1 r[k].2.1 r[k].2.2 = false) : inS r = false := by
  unfold inS
  rw [List.all_eq_false]
  exact ⟨r[k], List.getElem_mem _, by rw [h]; simp⟩
theorem inS_yes {r : List (Int × Int × Int)} (h : ∀ k (hk : k < r.length), inB r[k].1 r[k].2.1 r[k].2.2 = true) : inS r = true := by
  unfold inS
  rw [List.all_eq_true]
  intro s hs
  obtain ⟨k, hk, rfl⟩ := List.getElem_of_mem hs
  exact h k hk
theorem idx_sp (b n c j : Nat) (hj : j < n) (w : World) : (Instr.indexAt 53 (.slice (some ⟨b, 0, none⟩) n c) (.int .i64 (j : Int))).run Try.prog w = .ok (.pointer (some ⟨b, j * 3, none⟩)) w := by
  have hs : ∀ w : World, (sizeOf (Try.prog.elem 53)).run Try.prog w = .ok 3 w := fun _ => by kernel_rfl
  rw [run_indexAt_slice (P := Try.prog) w 53 _ n c .i64 (j : Int) (by kernel_rfl)]
  simp [hs, hj, Result.andThen, Addr.add_lit]
set_option maxHeartbeats 1000000 in
set_option maxRecDepth 100000 in
theorem withinL (r : List (Int × Int × Int)) (hr : r.length ≤ 1048576) (g : Nat) (w : World) (hg : w.heap[g]? = some (.cells (rowSp r).toArray 44)) :
    Calls Try.prog 18 #[.slice (some ⟨g, 0, none⟩) r.length r.length] w fun e w' => e = .returned (.bool (inS r)) ∧ Below w.heap.size w w' := by
  have hc : ∀ k (hk : k < r.length), w.cell? ⟨g, k * 3, none⟩ = some (.int .i64 r[k].1) ∧ w.cell? ⟨g, k * 3 + 1, none⟩ = some (.int .i64 r[k].2.1) ∧ w.cell? ⟨g, k * 3 + 2, none⟩ = some (.int .i64 r[k].2.2) := fun k hk => by
    have q : ∀ t x, t < 3 → (sp3 r[k])[t]? = some x → w.cell? ⟨g, k * 3 + t, none⟩ = some x := fun t x ht e => by
      rw [cell_of_row w g _ _ _ _ hg, List.getElem?_toArray, rowSp_get r k hk t ht]
      exact e
    exact ⟨q 0 _ (by omega) rfl, q 1 _ (by omega) rfl, q 2 _ (by omega) rfl⟩
  replace hc := hid hc
  clear hg
  go_enter Try.func18, Try.ntmps18
  go_wp2_with fail
  go_loopw [4, 7] (fun u i wr => ∃ k : Nat, ∃ u4 : Value, k ≤ r.length ∧ i = .int .i64 k ∧ u = u4 ∧ Hid (Below w.heap.size w wr) ∧ Hid (∀ j (hj : j < r.length), j < k → inB r[j].1 r[j].2.1 r[j].2.2 = true)) (fun _ i _ => r.length - (intOf i).toNat)
  case atStart => exact ⟨0, _, by omega, rfl, rfl, hid (Below.refl _ _), hid fun j _ q => by omega⟩
  case round =>
    obtain ⟨k, u4, hk, rfl, rfl, BL, OK⟩ := hrel
    by_cases hlt : k < r.length
    · obtain ⟨c0, c1, c2⟩ := hc.out k hlt
      replace c0 := cell_kept BL.out c0
      replace c1 := cell_kept BL.out c1
      replace c2 := cell_kept BL.out c2
      have I1 := idx_sp g r.length r.length k hlt
      have NO := hid fun q => inS_no hlt q
      have YS := hid fun (q : inB r[k].1 r[k].2.1 r[k].2.2 = true) => show ∀ j (hj : j < r.length), j < k + 1 → inB r[j].1 r[j].2.1 r[j].2.2 = true from fun j hj q2 => by
        rcases Nat.lt_or_ge j k with q3 | q3
        · exact OK.out j hj q3
        · obtain rfl : j = k := by omega
          exact q
      obtain ⟨⟨x, l, h⟩, hs⟩ : ∃ s, s = r[k] := ⟨_, rfl⟩
      rw [← hs] at c0 c1 c2 NO YS
      clear hs
      simp only at c0 c1 c2 NO YS
      have B2 := hid (BL.out.trans ((below_alloc1 wr (.cells #[.int .i64 x, .int .i64 l, .int .i64 h] 44)).mono BL.out.size))
      by_cases a1 : l ≤ x
      · by_cases a2 : x ≤ h
        · have OK2 := hid (YS.out (by unfold inB; simp [a1, a2]))
          clear YS NO OK BL
          go_wp2
          go_roundw
          case rel => exact ⟨k + 1, _, hlt, by go_num, rfl, B2, OK2⟩
          case measure => simp [intOf]; omega
        · have E := hid (NO.out (by unfold inB; rw [decide_eq_false (fun q : l ≤ x ∧ x ≤ h => a2 q.2)]))
          clear YS NO OK BL
          go_wp2
          go_ret
          exact ⟨ret_b E.out.symm, B2.out⟩
      · have E := hid (NO.out (by unfold inB; rw [decide_eq_false (fun q : l ≤ x ∧ x ≤ h => a1 q.1)]))
        clear YS NO OK BL
        go_wp2
        go_ret
        exact ⟨ret_b E.out.symm, B2.out⟩
    · have E := hid (inS_yes fun j hj => OK.out j hj (by omega))
      go_wp2
      go_ret
      exact ⟨ret_b E.out.symm, BL.out⟩
end Go.Proofs.Ytemkokgejohlbaa.W
