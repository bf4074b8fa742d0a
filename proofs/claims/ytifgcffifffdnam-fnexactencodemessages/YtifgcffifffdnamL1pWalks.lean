/-
  Numbers as bytes: the model's l1Pack.
-/
import Derived.Test.YtifgcffifffdnamBase
import Derived.Test.YtifgcffifffdnamPack
namespace Go.Proofs.Ytifgcffifffdnam.W
open Go.ChangeShapes Go.WideShapes Go.ChangeAt Go.RowKit
open Go.Proofs.Ytifgcffifffdnam.M

set_option maxRecDepth 100000 in
theorem l1pack (n s : Nat) (w : World) (hs1 : 1 ≤ s) (hs : s ≤ 8) (hn : n < 9223372036854775808) :
    Calls Try.prog 72 #[.int .i64 (n : Int), .int .i64 (s : Int)] w fun e w' => e = .returned (.slice (some ⟨w.heap.size, 0, none⟩) s s) ∧ Own w' w.heap.size (.slice (some ⟨w.heap.size, 0, none⟩) s s) (packL n s) ∧ Below w.heap.size w w' := by
  obtain ⟨i0, hi, hz0, hz1, hz2⟩ := info_parts info8
  go_enter Try.func72, Try.ntmps72
  go_wp2_with (at_make; refine wpList_make_full _ rfl _ _ 36 rfl w.heap.size 5 i0 (.int .u8 0) 1 Try.underlying36 hi hz0 hz1 .i64 .i64 _ _ s rfl rfl rfl rfl (by rw [hz2]; omega) (by unfold maxLen; omega) (Nat.le_refl _) ?_; intro w0 hown0 hgrow0)
  have hown1 := own_made w w0 s hown0
  have hb0 := below_of_grown hgrow0 (Nat.le_refl _) (fun k hk => by simp at hk)
  clear hown0 hgrow0 hi hz0 hz1 hz2
  go_loopw [0, 6] (fun nn i wr => ∃ j : Nat, j ≤ s ∧ i = .int .i64 ((j : Int) - 1) ∧ nn = .int .i64 (n / 256 ^ (s - j) : Nat) ∧ Own wr w.heap.size (.slice (some ⟨w.heap.size, 0, none⟩) s s) (packed n s j) ∧ Below w.heap.size w wr) (fun _ i _ => (intOf i + 1).toNat)
  case atStart => exact ⟨s, by omega, rfl, by simp, by rw [packed_all]; exact hown1, hb0⟩
  case round =>
    obtain ⟨j, hj, rfl, rfl, hown, hb⟩ := hrel
    by_cases hlt : 0 < j
    · obtain ⟨t, rfl⟩ : ∃ t, j = t + 1 := ⟨j - 1, by omega⟩
      have et : ((t + 1 : Nat) : Int) - 1 = (t : Int) := by omega
      rw [et]
      have hl1 := packed_len n s (t + 1) hj
      have hc2 : ∃ u, wr.cell? ⟨w.heap.size, t, none⟩ = some u := ⟨_, hown.cell hl1 t (by omega)⟩
      obtain ⟨u, hc2⟩ := hc2
      have hf2 := hown.open hl1 t
      have hs2 := hown.stored hl1 t (n / 256 ^ (s - (t + 1)) % 256)
      rw [packed_set n s t (by omega)] at hs2
      have hb2 := hb.setCell (p := ⟨w.heap.size, t, none⟩) (Nat.le_refl _) (bv (n / 256 ^ (s - (t + 1)) % 256))
      have hx : n / 256 ^ (s - (t + 1)) < 9223372036854775808 := Nat.lt_of_le_of_lt (Nat.div_le_self _ _) hn
      have Hq : Hid (n / 256 ^ (s - t) = n / 256 ^ (s - (t + 1)) / 256) := by unfold Hid; rw [quot_step, show s - (t + 1) + 1 = s - t by omega]
      generalize n / 256 ^ (s - (t + 1)) = x at *
      unfold bv at hs2 hb2
      have e : ((x % 256 : Nat) : Int) = (x : Int) % 256 := by omega
      rw [e] at hs2 hb2
      clear hown hb e et
      go_wp2
      go_roundw
      case rel => exact ⟨t, by omega, rfl, by rw [Hq.out]; rfl, hs2.1, hb2⟩
      case measure => simp [intOf]
    · have hk8 : j = 0 := by omega
      subst hk8
      rw [packed_zero] at hown
      go_wp2
      go_ret
      exact ⟨rfl, hown, hb⟩
end Go.Proofs.Ytifgcffifffdnam.W
