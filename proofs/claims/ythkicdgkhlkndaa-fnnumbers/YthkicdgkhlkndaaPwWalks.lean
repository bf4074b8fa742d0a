/-
  Numbers as bytes: PackWord of the model and of the program.
-/
import Derived.Test.YthkicdgkhlkndaaInWalks
import Derived.Test.YthkicdgkhlkndaaPack
namespace Go.Proofs.Ythkicdgkhlkndaa.W
open Go.ChangeShapes Go.WideShapes Go.ChangeAt Go.RowKit
open Go.Proofs.Ythkicdgkhlkndaa.M

set_option maxRecDepth 100000 in
theorem l1pack (n s : Nat) (w : World) (hs1 : 1 ≤ s) (hs : s ≤ 8) (hn : n < 9223372036854775808) :
    Calls Try.prog 36 #[.int .i64 (n : Int), .int .i64 (s : Int)] w fun e w' => e = .returned (.slice (some ⟨w.heap.size, 0, none⟩) s s) ∧ Own w' w.heap.size (.slice (some ⟨w.heap.size, 0, none⟩) s s) (packL n s) ∧ Below w.heap.size w w' := by
  obtain ⟨i0, hi, hz0, hz1, hz2⟩ := info_parts info8
  go_enter Try.func36, Try.ntmps36
  go_wp2_with (at_make; refine wpList_make_full _ rfl _ _ 22 rfl w.heap.size 5 i0 (.int .u8 0) 1 Try.underlying22 hi hz0 hz1 .i64 .i64 _ _ s rfl rfl rfl rfl (by rw [hz2]; omega) (by unfold maxLen; omega) (Nat.le_refl _) ?_; intro w0 hown0 hgrow0)
  have hown1 := own_made w w0 s hown0
  have hb0 := below_of_grown hgrow0 (Nat.le_refl _) (fun k hk => by simp at hk)
  clear hown0 hgrow0 hi hz0 hz1 hz2
  go_loopw [0, 6] (fun nn i wr => ∃ j : Nat, j ≤ s ∧ i = .int .i64 ((j : Int) - 1) ∧ nn = .int .i64 (n / 256 ^ (s - j) : Nat) ∧ Own wr w.heap.size (.slice (some ⟨w.heap.size, 0, none⟩) s s) (packed n s j) ∧ Below w.heap.size w wr) (fun _ i _ => (intOf i + 1).toNat)
  case atStart => exact ⟨s, by omega, rfl, by simp, by rw [packed_all]; exact hown1, hb0⟩
  case round =>
    obtain ⟨j, hj, rfl, rfl, hown, hb⟩ := hrel
    by_cases hlt : 0 < j
    · obtain ⟨t, rfl⟩ : ∃ t, j = t + 1 := ⟨j - 1, by omega⟩
      have et : ((t + 1 : Nat) : Int) - 1 = (t : Int) := by omega
      rw [et]
      have hl1 := packed_len n s (t + 1) hj
      have hc2 : ∃ u, wr.cell? ⟨w.heap.size, t, none⟩ = some u := ⟨_, hown.cell hl1 t (by omega)⟩
      obtain ⟨u, hc2⟩ := hc2
      have hf2 := hown.open hl1 t
      have hs2 := hown.stored hl1 t (n / 256 ^ (s - (t + 1)) % 256)
      rw [packed_set n s t (by omega)] at hs2
      have hb2 := hb.setCell (p := ⟨w.heap.size, t, none⟩) (Nat.le_refl _) (bv (n / 256 ^ (s - (t + 1)) % 256))
      have hx : n / 256 ^ (s - (t + 1)) < 9223372036854775808 := Nat.lt_of_le_of_lt (Nat.div_le_self _ _) hn
      have Hq : Hid (n / 256 ^ (s - t) = n / 256 ^ (s - (t + 1)) / 256) := by unfold Hid; rw [quot_step, show s - (t + 1) + 1 = s - t by omega]
      generalize n / 256 ^ (s - (t + 1)) = x at *
      unfold bv at hs2 hb2
      have e : ((x % 256 : Nat) : Int) = (x : Int) % 256 := by omega
      rw [e] at hs2 hb2
      clear hown hb e et
      go_wp2
      go_roundw
      case rel => exact ⟨t, by omega, rfl, by rw [Hq.out]; rfl, hs2.1, hb2⟩
      case measure => simp [intOf]
    · have hk8 : j = 0 := by omega
      subst hk8
      rw [packed_zero] at hown
      go_wp2
      go_ret
      exact ⟨rfl, hown, hb⟩

set_option maxRecDepth 100000 in
theorem spw_ok (n s : Nat) (w : World) (hs1 : 1 ≤ s) (hs : s ≤ 8) (hn : n < 9223372036854775808) (hp : n < 256 ^ s) :
    Calls Try.prog 21 #[.int .i64 (n : Int), .int .i64 (s : Int)] w fun e w' => ∃ v, e = .returned (.agg #[.int .i64 0, v]) ∧ Own w' w.heap.size v (packL n s) ∧ Below w.heap.size w w' := by
  have hin : inB (s : Int) 1 8 = true := by unfold inB; simp; omega
  go_enter Try.func21, Try.ntmps21
  go_wp2_with (go_at_call 35; refine (l1in _ _ _ _).mono ?_; rintro e w' ⟨rfl, rfl⟩)
  go_loop [5, 6] (fun left i => ∃ k : Nat, k ≤ s ∧ i = .int .i64 k ∧ left = .int .i64 (n / 256 ^ k : Nat)) (fun _ i => s - (intOf i).toNat)
  case atStart => exact ⟨0, by omega, rfl, by simp⟩
  case round =>
    obtain ⟨k, hk, rfl, rfl⟩ := hrel
    by_cases hlt : k < s
    · have hx : n / 256 ^ k < 9223372036854775808 := Nat.lt_of_le_of_lt (Nat.div_le_self _ _) hn
      have Hq : Hid (n / 256 ^ (k + 1) = n / 256 ^ k / 256) := (quot_step n k).symm
      generalize n / 256 ^ k = x at *
      go_wp2
      go_round
      case rel => exact ⟨k + 1, by omega, by go_num, by rw [Hq.out]; rfl⟩
      case measure => simp [intOf]; omega
    · have hk8 : k = s := by omega
      subst hk8
      have h0 : n / 256 ^ k = 0 := Nat.div_eq_of_lt hp
      rw [h0]
      clear h0
      go_wp2_with fail
      refine (l1pack n k _ hs1 hs hn).mono ?_
      rintro e w' ⟨rfl, hO, hB⟩
      have hv := var2 hB (by simp)
      obtain ⟨f1, f2, f3, f4⟩ := var2_facts hv
      have hset := var2_set (x' := .int .i64 0) (y' := .slice (some ⟨w.heap.size + 1, 0, none⟩) k k) hv
      have hbel := below_set2 (x := .int .i64 0) (y := .slice (some ⟨w.heap.size + 1, 0, none⟩) k k) ((below_alloc1 w _).trans (hB.mono (by simp))) (Nat.le_refl _)
      have hown := hO.set2 (g := w.heap.size) (x := .int .i64 0) (y := .slice (some ⟨w.heap.size + 1, 0, none⟩) k k) (by simp)
      have hown2 := hown.mono (base' := w.heap.size) (by simp)
      simp only [World.size_alloc] at hown2
      clear hv hB hO hown
      go_wp2
      exact bodyPost_ret (v := .agg #[.int .i64 0, .slice (some ⟨w.heap.size + 1, 0, none⟩) k k]) (results_cell_row rfl _ _ w.heap.size 33 _ _ _ rfl hset Try.underlying33 rfl (by kernel_rfl)) rfl ⟨_, rfl, hown2, hbel⟩

set_option maxRecDepth 100000 in
theorem spw_bad (n s : Int) (w : World) (h : ¬ (1 ≤ s ∧ s ≤ 8) ∨ n < 0 ∨ 256 ^ s.toNat ≤ n) (hn : n < 9223372036854775808) :
    Calls Try.prog 21 #[.int .i64 n, .int .i64 s] w fun e w' => e = .returned (.agg #[.int .i64 3, .slice none 0 0]) ∧ Below w.heap.size w w' := by
  by_cases hs : 1 ≤ s ∧ s ≤ 8
  · have hin : inB s 1 8 = true := by unfold inB; simp; omega
    by_cases h0 : n < 0
    · go_enter Try.func21, Try.ntmps21
      go_wp2_with (go_at_call 35; refine (l1in _ _ _ _).mono ?_; rintro e w' ⟨rfl, rfl⟩)
      exact bodyPost_ret (v := .agg #[.int .i64 3, .slice none 0 0]) (by simp [results, Try.results21, go_sem]) rfl ⟨rfl, below_alloc1 w _⟩
    · obtain ⟨s, rfl⟩ : ∃ t : Nat, s = t := ⟨s.toNat, by omega⟩
      obtain ⟨n, rfl⟩ : ∃ t : Nat, n = t := ⟨n.toNat, by omega⟩
      have hp : 256 ^ s ≤ n := by
        rcases h with h | h | h
        · exact absurd hs h
        · omega
        · rw [Int.toNat_natCast] at h; exact_mod_cast h
      have hn2 : n < 9223372036854775808 := by omega
      clear h hn h0
      go_enter Try.func21, Try.ntmps21
      go_wp2_with (go_at_call 35; refine (l1in _ _ _ _).mono ?_; rintro e w' ⟨rfl, rfl⟩)
      go_loop [5, 6] (fun left i => ∃ k : Nat, k ≤ s ∧ i = .int .i64 k ∧ left = .int .i64 (n / 256 ^ k : Nat)) (fun _ i => s - (intOf i).toNat)
      case atStart => exact ⟨0, by omega, rfl, by simp⟩
      case round =>
        obtain ⟨k, hk, rfl, rfl⟩ := hrel
        by_cases hlt : k < s
        · have hx : n / 256 ^ k < 9223372036854775808 := Nat.lt_of_le_of_lt (Nat.div_le_self _ _) (by omega)
          have Hq : Hid (n / 256 ^ (k + 1) = n / 256 ^ k / 256) := (quot_step n k).symm
          generalize n / 256 ^ k = x at *
          go_wp2
          go_round
          case rel => exact ⟨k + 1, by omega, by go_num, by rw [Hq.out]; rfl⟩
          case measure => simp [intOf]; omega
        · have hk8 : k = s := by omega
          subst hk8
          have h1 : 0 < n / 256 ^ k := Nat.div_pos hp (Nat.pow_pos (by omega))
          generalize n / 256 ^ k = x at *
          have h2 : ((x : Int) == 0) = false := by simp; omega
          go_wp2
          exact bodyPost_ret (v := .agg #[.int .i64 3, .slice none 0 0]) (by simp [results, Try.results21, go_sem]) rfl ⟨rfl, below_alloc1 w _⟩
  · have hin : inB s 1 8 = false := by unfold inB; exact decide_eq_false hs
    clear h hs
    go_enter Try.func21, Try.ntmps21
    go_wp2_with (go_at_call 35; refine (l1in _ _ _ _).mono ?_; rintro e w' ⟨rfl, rfl⟩)
    exact bodyPost_ret (v := .agg #[.int .i64 3, .slice none 0 0]) (by simp [results, Try.results21, go_sem]) rfl ⟨rfl, below_alloc1 w _⟩
end Go.Proofs.Ythkicdgkhlkndaa.W
