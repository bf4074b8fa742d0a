/-
  Numbers as bytes: PackWord of the program, where the number fits.
-/
import Derived.Test.YtifgcffifffdnamWithin
import Derived.Test.YtifgcffifffdnamPack
namespace Go.Proofs.Ytifgcffifffdnam.W
open Go.ChangeShapes Go.WideShapes Go.ChangeAt Go.RowKit
open Go.Proofs.Ytifgcffifffdnam.M

theorem shift_no (n s : Nat) (h : n < 256 ^ s) : ((n : Int) / 2 ^ (8 * s) != 0) = false := by
  have e : ((n : Int) / 2 ^ (8 * s)) = ((n / 256 ^ s : Nat) : Int) := by rw [show (256 : Nat) ^ s = 2 ^ (8 * s) from (Nat.pow_mul 2 8 s).symm]; simp
  rw [e, Nat.div_eq_of_lt h]; rfl
theorem shift_yes (n s : Nat) (h : 256 ^ s ≤ n) : ((n : Int) / 2 ^ (8 * s) != 0) = true := by
  have e : ((n : Int) / 2 ^ (8 * s)) = ((n / 256 ^ s : Nat) : Int) := by rw [show (256 : Nat) ^ s = 2 ^ (8 * s) from (Nat.pow_mul 2 8 s).symm]; simp
  have h1 : 0 < n / 256 ^ s := Nat.div_pos h (Nat.pow_pos (by omega))
  rw [e, bne_iff_ne]; omega

set_option maxRecDepth 100000 in
theorem ipw_ok (n s : Nat) (w : World) (hs1 : 1 ≤ s) (hs : s ≤ 8) (hn : n < 9223372036854775808) (hp : n < 256 ^ s) :
    Calls Try.prog 73 #[.int .i64 (n : Int), .int .i64 (s : Int)] w fun e w' => ∃ v, e = .returned (.agg #[.int .i64 0, v]) ∧ Own w' w.heap.size v (packL n s) ∧ Below w.heap.size w w' := by
  have hin : (inB (s : Int) 1 8 && inB (n : Int) 0 9223372036854775807) = true := by unfold inB; simp; omega
  have hsh := shift_no n s hp
  obtain ⟨i0, hi, hz0, hz1, hz2⟩ := info_parts info8
  go_enter Try.func73, Try.ntmps73
  go_wp2_with fail
  refine (within2 _ _ _ _ _ _ _ _ (heap_alloc2_new w _ _)).mono ?_
  rintro e w1 ⟨rfl, hB⟩
  have hv : w1.heap[w.heap.size]? = some (.cells #[.int .i64 0, .slice none 0 0] 50) := by rw [hB.block _ (by simp; omega)]; exact heap_alloc2_old w _ _
  have hsz : w.heap.size < w1.heap.size := (Array.getElem?_eq_some_iff.1 hv).1
  have hb1 : Below w.heap.size w w1 := (below_alloc2 w _ _).trans (hB.mono (by simp; omega))
  clear hB
  go_wp2_with (at_make; refine wpList_make_full _ rfl _ _ 36 rfl w1.heap.size 5 i0 (.int .u8 0) 1 Try.underlying36 hi hz0 hz1 .i64 .i64 _ _ s rfl rfl rfl rfl (by rw [hz2]; omega) (by unfold maxLen; omega) (Nat.le_refl _) ?_; intro w0 hown0 hgrow0)
  have hown1 := own_made w1 w0 s hown0
  have hb0 := below_of_grown hgrow0 (Nat.le_refl _) (fun k hk => by simp at hk)
  clear hown0 hgrow0 hi hz0 hz1 hz2 hsh hin
  go_loopw [0, 6] (fun nn i wr => ∃ j : Nat, j ≤ s ∧ i = .int .i64 ((j : Int) - 1) ∧ nn = .int .i64 (n / 256 ^ (s - j) : Nat) ∧ Own wr w1.heap.size (.slice (some ⟨w1.heap.size, 0, none⟩) s s) (packed n s j) ∧ Below w1.heap.size w1 wr) (fun _ i _ => (intOf i + 1).toNat)
  case atStart => exact ⟨s, by omega, rfl, by simp, by rw [packed_all]; exact hown1, hb0⟩
  case round =>
    obtain ⟨j, hj, rfl, rfl, hown, hb⟩ := hrel
    by_cases hlt : 0 < j
    · obtain ⟨t, rfl⟩ : ∃ t, j = t + 1 := ⟨j - 1, by omega⟩
      have et : ((t + 1 : Nat) : Int) - 1 = (t : Int) := by omega
      rw [et]
      have hl1 := packed_len n s (t + 1) hj
      have hc2 : ∃ u, wr.cell? ⟨w1.heap.size, t, none⟩ = some u := ⟨_, hown.cell hl1 t (by omega)⟩
      obtain ⟨u, hc2⟩ := hc2
      have hf2 := hown.open hl1 t
      have hs2 := hown.stored hl1 t (n / 256 ^ (s - (t + 1)) % 256)
      rw [packed_set n s t (by omega)] at hs2
      have hb2 := hb.setCell (p := ⟨w1.heap.size, t, none⟩) (Nat.le_refl _) (bv (n / 256 ^ (s - (t + 1)) % 256))
      have hx : n / 256 ^ (s - (t + 1)) < 9223372036854775808 := Nat.lt_of_le_of_lt (Nat.div_le_self _ _) hn
      have Hq : Hid (n / 256 ^ (s - t) = n / 256 ^ (s - (t + 1)) / 256) := by unfold Hid; rw [quot_step, show s - (t + 1) + 1 = s - t by omega]
      generalize n / 256 ^ (s - (t + 1)) = x at *
      unfold bv at hs2 hb2
      have e : ((x % 256 : Nat) : Int) = (x : Int) % 256 := by omega
      rw [e] at hs2 hb2
      clear hown hb e et hv hb1 hown1 hb0
      go_wp2
      go_roundw
      case rel => exact ⟨t, by omega, rfl, by rw [Hq.out]; rfl, hs2.1, hb2⟩
      case measure => simp [intOf]
    · have hk8 : j = 0 := by omega
      subst hk8
      rw [packed_zero] at hown
      have hv2 : wr.heap[w.heap.size]? = some (.cells #[.int .i64 0, .slice none 0 0] 50) := by rw [hb.block _ hsz]; exact hv
      obtain ⟨f1, f2, f3, f4⟩ := var2_facts hv2
      have hset := var2_set (x' := .int .i64 0) (y' := .slice (some ⟨w1.heap.size, 0, none⟩) s s) hv2
      have hbel := below_set2 (x := .int .i64 0) (y := .slice (some ⟨w1.heap.size, 0, none⟩) s s) (hb1.trans (hb.mono (by omega))) (Nat.le_refl _)
      have hown2 := (hown.set2 (g := w.heap.size) (x := .int .i64 0) (y := .slice (some ⟨w1.heap.size, 0, none⟩) s s) hsz).mono (base' := w.heap.size) (by omega)
      clear hv hv2 hown hb hb1 hown1 hb0
      go_wp2
      exact bodyPost_ret (v := .agg #[.int .i64 0, .slice (some ⟨w1.heap.size, 0, none⟩) s s]) (results_cell_row rfl _ _ w.heap.size 50 _ _ _ rfl hset Try.underlying50 rfl (by kernel_rfl)) rfl ⟨_, rfl, hown2, hbel⟩
end Go.Proofs.Ytifgcffifffdnam.W
