/-
  Slices of bytes: how the exact laws copy, compare, mark and hold them.
-/
import Derived.Test.YtifgcffifffdnamBase
namespace Go.Proofs.Ytifgcffifffdnam.W
open Go.ChangeShapes Go.WideShapes Go.ChangeAt Go.RowKit
open Go.Proofs.Ytifgcffifffdnam.M

set_option maxRecDepth 100000 in
theorem toB (v : Value) (l : List Nat) (w : World) (h : Rd w v l) (hl : l.length ≤ 1048576) :
    Calls Try.prog 29 #[v] w fun e w' => e = .returned (.slice (some ⟨w.heap.size, 0, none⟩) l.length l.length) ∧ Own w' w.heap.size (.slice (some ⟨w.heap.size, 0, none⟩) l.length l.length) l ∧ Below w.heap.size w w' := by
  obtain ⟨i0, hi, hz0, hz1, hz2⟩ := info_parts info8
  obtain ⟨a, cap, rfl, _, _, hcell⟩ := h.parts
  clear h
  have rfl0 : (madeCells (Value.int .u8 0).cells (l.length * 1)).toList = (front l 0).map bv := by
    rw [front_zero, List.map_replicate, Nat.mul_one]; exact toList_madeCells_one _ _
  go_enter Try.func29, Try.ntmps29
  go_wp2_with (at_make; refine wpList_make_full _ rfl _ _ 36 rfl w.heap.size 5 i0 (.int .u8 0) 1 Try.underlying36 hi hz0 hz1 .i64 .i64 _ _ l.length rfl rfl rfl rfl (by rw [hz2]; omega) (by unfold maxLen; omega) (Nat.le_refl _) ?_; intro w0 hown0 hgrow0)
  have hown1 : Own w0 w.heap.size (.slice (some ⟨w.heap.size, 0, none⟩) l.length l.length) (front l 0) := by
    rw [rfl0] at hown0; unfold Own; rw [front_len l 0 (by omega)]; exact hown0
  have hb0 := below_of_grown hgrow0 (Nat.le_refl _) (fun k hk => by simp at hk)
  clear hown0 hgrow0 rfl0 hi hz0 hz1 hz2
  go_loopw [4] (fun i wr => ∃ k : Nat, k ≤ l.length ∧ i = .int .i64 k ∧ Own wr w.heap.size (.slice (some ⟨w.heap.size, 0, none⟩) l.length l.length) (front l k) ∧ Below w.heap.size w wr) (fun i _ => l.length - (intOf i).toNat)
  case atStart => exact ⟨0, by omega, rfl, hown1, hb0⟩
  case round =>
    obtain ⟨k, hk, rfl, hown, hb⟩ := hrel
    by_cases hlt : k < l.length
    · obtain ⟨b, o, rfl, hc⟩ := hcell k hlt
      have hbk := World.block_lt_of_cell? w _ hc
      have hc1 : wr.cell? ⟨b, o + k, none⟩ = some (.int .u8 (l[k] : Nat)) := (hb.cell (p := ⟨b, o + k, none⟩) hbk).trans hc
      have hl1 := front_len l k hk
      have hc2 : ∃ u, wr.cell? ⟨w.heap.size, k, none⟩ = some u := ⟨_, hown.cell hl1 k (by omega)⟩
      obtain ⟨u, hc2⟩ := hc2
      have hf2 := hown.open hl1 k
      have hs := hown.stored hl1 k l[k]
      rw [front_set l k hlt] at hs
      have hb2 := hb.setCell (p := ⟨w.heap.size, k, none⟩) (Nat.le_refl _) (bv l[k])
      unfold bv at hs hb2
      clear hown hb hc hcell
      go_wp2
      go_roundw
      case rel => exact ⟨k + 1, by omega, by go_num, hs.1, hb2⟩
      case measure => simp [intOf]; omega
    · have hk8 : k = l.length := by omega
      subst hk8
      rw [front_end] at hown
      go_wp2
      go_ret
      exact ⟨rfl, hown, hb⟩

set_option maxRecDepth 100000 in
theorem eqB (va vb : Value) (l : List Nat) (w : World) (ha : Rd w va l) (hb : Rd w vb l) (hl : l.length ≤ 1048576) :
    Calls Try.prog 32 #[va, vb] w fun e w' => e = .returned (.bool true) ∧ Below w.heap.size w w' := by
  obtain ⟨a, capa, rfl, _, _, hca⟩ := ha.parts
  obtain ⟨b, capb, rfl, _, _, hcb⟩ := hb.parts
  clear ha hb
  go_enter Try.func32, Try.ntmps32
  go_wp2
  go_loopw [5] (fun i wr => ∃ k : Nat, k ≤ l.length ∧ i = .int .i64 k ∧ Below w.heap.size w wr) (fun i _ => l.length - (intOf i).toNat)
  case atStart => exact ⟨0, by omega, rfl, Below.refl _ _⟩
  case round =>
    obtain ⟨k, hk, rfl, hb⟩ := hrel
    by_cases hlt : k < l.length
    · obtain ⟨ba, oa, rfl, ca⟩ := hca k hlt
      obtain ⟨bb, ob, rfl, cb⟩ := hcb k hlt
      have ca := cell_kept hb ca
      have cb := cell_kept hb cb
      unfold bv at ca cb
      clear hca hcb
      go_wp2
      go_quiet (fail)
      go_wp2
      go_roundw
      case rel => exact ⟨k + 1, by omega, by go_num, below_drewN hb _⟩
      case measure => simp [intOf]; omega
    · have hk8 : k = l.length := by omega
      subst hk8
      go_wp2
      go_ret
      exact ⟨rfl, hb⟩

set_option maxRecDepth 100000 in
theorem markB (v : Value) (l : List Nat) (k base : Nat) (w : World) (h : Own w base v l) (hl : l.length ≤ 1048576) (hk : k ≤ 16777216) :
    Calls Try.prog 33 #[v, .int .i64 (k : Int)] w fun e w' => e = .returned (.int .i64 ((k + l.length : Nat) : Int)) ∧ Own w' base v (marks k l.length) ∧ w.grownBy w' v.ownBlock := by
  rcases h.2 with ⟨rfl, h0⟩ | ⟨g, cap, cur, rfl, -, -, -, -, -, -⟩
  · obtain rfl := List.eq_nil_of_length_eq_zero h0
    go_enter Try.func33, Try.ntmps33
    go_wp2
    refine wp_loop_rounds 1 ?_
    rw [rounds_succ]
    go_wp2
    go_ret
    exact ⟨rfl, h, World.grownBy.refl _ _⟩
  · rw [show (Value.slice (some ⟨g, 0, none⟩) l.length cap).ownBlock = some g from rfl]
    go_enter Try.func33, Try.ntmps33
    go_wp2
    go_loopw [1, 5] (fun kk i wr => ∃ j : Nat, j ≤ l.length ∧ i = .int .i64 j ∧ kk = .int .i64 (k + j : Nat) ∧ Own wr base (.slice (some ⟨g, 0, none⟩) l.length cap) (marked l k j) ∧ w.grownBy wr (some g)) (fun _ i _ => l.length - (intOf i).toNat)
    case atStart => exact ⟨0, by omega, rfl, rfl, by rw [marked_zero]; exact h, World.grownBy.refl _ _⟩
    case round =>
      obtain ⟨j, hj, rfl, rfl, hown, hg⟩ := hrel
      by_cases hlt : j < l.length
      · have hl1 := marked_len l k j hj
        have hc2 : ∃ u, wr.cell? ⟨g, j, none⟩ = some u := ⟨_, hown.cell hl1 j (by omega)⟩
        obtain ⟨u, hc2⟩ := hc2
        have hf2 := hown.open hl1 j
        have hs := hown.stored hl1 j ((k + j) % 256)
        rw [marked_set l k j hlt] at hs
        unfold bv at hs
        have e : (((k + j) % 256 : Nat) : Int) = ((k : Int) + j) % 256 := by omega
        rw [e] at hs
        have hs2 := grown_trans hg hs.2
        clear hown hg e h
        go_wp2
        go_roundw
        case rel => exact ⟨j + 1, by omega, by go_num, by go_num, hs.1, hs2⟩
        case measure => simp [intOf]; omega
      · have hk8 : j = l.length := by omega
        subst hk8
        rw [marked_end] at hown
        go_wp2
        go_ret
        exact ⟨rfl, hown, hg⟩

set_option maxRecDepth 100000 in
theorem heldB (v : Value) (n k : Nat) (w : World) (h : Rd w v (marks k n)) (hl : n ≤ 1048576) (hk : k ≤ 16777216) :
    Calls Try.prog 59 #[v, .int .i64 (k : Int)] w fun e w' => e = .returned (.int .i64 ((k + n : Nat) : Int)) ∧ w' = w := by
  obtain ⟨a, cap, rfl, _, _, hcs⟩ := h.parts
  rw [marks_len] at *
  clear h
  go_enter Try.func59, Try.ntmps59
  go_wp2
  go_loop [1, 5] (fun kk i => ∃ j : Nat, j ≤ n ∧ i = .int .i64 j ∧ kk = .int .i64 (k + j : Nat)) (fun _ i => n - (intOf i).toNat)
  case atStart => exact ⟨0, by omega, rfl, rfl⟩
  case round =>
    obtain ⟨j, hj, rfl, rfl⟩ := hrel
    by_cases hlt : j < n
    · obtain ⟨b, o, rfl, hc⟩ := hcs j (by rw [marks_len]; exact hlt)
      clear hcs
      rw [marks_at] at hc
      unfold bv at hc
      have e : (((k + j) % 256 : Nat) : Int) = ((k : Int) + j) % 256 := by omega
      rw [e] at hc
      clear e
      go_wp2
      go_round
      case rel => exact ⟨j + 1, by omega, by go_num, by go_num⟩
      case measure => simp [intOf]; omega
    · have hk8 : j = n := by omega
      subst hk8
      go_wp2
      go_ret
      exact ⟨rfl, rfl⟩

theorem markB1 (v : Value) (l : List Nat) (base : Nat) (w : World) (h : Own w base v l) (hl : l.length ≤ 1048576) :
    Calls Try.prog 33 #[v, .int .i64 1] w fun e w' => e = .returned (.int .i64 ((1 + l.length : Nat) : Int)) ∧ Own w' base v (marks 1 l.length) ∧ w.grownBy w' v.ownBlock := by
  have h := markB v l 1 base w h hl (by omega)
  rw [one_cast] at h
  exact h
end Go.Proofs.Ytifgcffifffdnam.W

