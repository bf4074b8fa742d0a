/-
  The products of bytes: what spec.FieldTimes and the callees of impl.FieldTimes answer.
-/
import Derived.Test.YthkicdgkhlkndaaRows
import Derived.Test.YthkicdgkhlkndaaBytes
import Derived.WalkKit
import Derived.ProofKit
import Derived.WalkSpells
namespace Go.Proofs.Ythkicdgkhlkndaa.W
open Go.ChangeShapes Go.WideShapes Go.ChangeAt Go.RowKit
open Go.Proofs.Ythkicdgkhlkndaa.M

theorem tp1 (a : Nat) (ha : a < 256) (w : World) :
    Calls Try.prog 40 #[.int .u8 (a : Int)] w fun e w' => e = .returned (.int .u8 (xt a : Nat)) ∧ w' = w := by
  go_enter Try.func40, Try.ntmps40
  go_wp2
  · go_ret
    exact ⟨ret_int (xt_hi' a ‹_› ha), rfl⟩
  · go_ret
    exact ⟨ret_int (xt_lo' a ‹_› ha), rfl⟩

set_option maxRecDepth 100000 in
theorem sft (a b : Nat) (ha : a < 256) (hb : b < 256) (w : World) :
    Calls Try.prog 11 #[.int .u8 (a : Int), .int .u8 (b : Int)] w fun e w' => e = .returned (.int .u8 (ft a b : Nat)) ∧ w' = w := by
  go_enter Try.func11, Try.ntmps11
  go_wp2
  go_loop [0, 1, 5, 6, 7] (fun a' b' out i hi => ∃ k : Nat, ∃ h : Value, k ≤ 8 ∧ i = .int .i64 k ∧ a' = .int .u8 (xtN a k : Nat) ∧ b' = .int .u8 (b / 2 ^ k : Nat) ∧ out = .int .u8 (acc a b k : Nat) ∧ hi = h) (fun _ _ _ i _ => 8 - (intOf i).toNat)
  case atStart => exact ⟨0, _, by omega, rfl, by simp [xtN], by simp, by simp [acc], rfl⟩
  case round =>
    obtain ⟨k, h, hk, rfl, rfl, rfl, rfl, rfl⟩ := hrel
    by_cases hlt : k < 8
    · have hx := xtN_lt a ha k
      have ho := acc_lt a b ha k
      have hy : b / 2 ^ k < 256 := Nat.lt_of_le_of_lt (Nat.div_le_self _ _) hb
      have Hy : Hid (acc a b (k + 1) = if b / 2 ^ k % 2 = 1 then acc a b k ^^^ xtN a k else acc a b k) := rfl
      have Hp : Hid (b / 2 ^ (k + 1) = b / 2 ^ k / 2) := (half_pow b k).symm
      generalize b / 2 ^ k = y at *
      go_wp2
      all_goals
        go_round
        case rel =>
          refine ⟨k + 1, _, by omega, by go_num, ?_, ?_, ?_, rfl⟩
          · first | exact int_u8 (xt_hi _ ‹_› hx) | exact int_u8 (xt_lo _ ‹_›)
          · rw [Hp.out]; exact int_u8 (by omega)
          · rw [Hy.out]; first | (rw [if_pos (by have := beq_iff_eq.1 ‹((y : Int) % 2 == 1) = true›; omega)]; exact int_u8 (xor8 _ _ ho hx)) | (rw [if_neg (by have := beq_eq_false_iff_ne.1 ‹((y : Int) % 2 == 1) = false›; omega)])
        case measure => simp [intOf]; omega
    · have hk8 : k = 8 := by omega
      subst hk8
      go_wp2
      go_ret
      exact ⟨rfl, rfl⟩

/-- The parts of the products of a. -/
def parts (a : Nat) : Array Value := #[.int .u8 (xtN a 0 : Nat), .int .u8 (xtN a 1 : Nat), .int .u8 (xtN a 2 : Nat), .int .u8 (xtN a 3 : Nat), .int .u8 (xtN a 4 : Nat), .int .u8 (xtN a 5 : Nat), .int .u8 (xtN a 6 : Nat), .int .u8 (xtN a 7 : Nat)]

set_option maxRecDepth 100000 in
theorem pof (a : Nat) (ha : a < 256) (w : World) :
    Calls Try.prog 29 #[.int .u8 (a : Int)] w fun e w' => e = .returned (.func (.func 41) #[] #[.pointer (some ⟨w.heap.size, 0, none⟩)]) ∧ w' = w.alloc (.cells (parts a) 64) := by
  have hmf : ∀ (fn : Fn) (first cap : Array Value) (w : World), (Instr.makeFunc fn first cap).run Try.prog w = .ok (.func fn first cap) w := fun _ _ _ _ => rfl
  go_enter Try.func29, Try.ntmps29
  go_wp2
  refine wp_loop_rounds 9 ?_
  iterate 9
    rw [rounds_succ]
    go_wp2_with (go_at_call 40; refine (tp1 _ ?_ _).mono ?_; (first | exact ha | exact xt_lt _); rintro e w' ⟨rfl, rfl⟩)
  go_ret
  exact ⟨rfl, rfl⟩

theorem parts_at (a : Nat) : ∀ (k : Nat), k < 8 → ∀ w : World, (Instr.index 64 (.agg (parts a)) (.int .i64 (k : Int))).run Try.prog w = .ok (.int .u8 (xtN a k : Nat)) w
  | 0, _, _ => by kernel_rfl
  | 1, _, _ => by kernel_rfl
  | 2, _, _ => by kernel_rfl
  | 3, _, _ => by kernel_rfl
  | 4, _, _ => by kernel_rfl
  | 5, _, _ => by kernel_rfl
  | 6, _, _ => by kernel_rfl
  | 7, _, _ => by kernel_rfl
  | n + 8, h, _ => by omega

set_option maxRecDepth 100000 in
theorem pcl (a b : Nat) (ha : a < 256) (hb : b < 256) (w : World) (blk : Nat) (h : w.heap[blk]? = some (.cells (parts a) 64)) :
    Calls Try.prog 41 #[.int .u8 (b : Int), .pointer (some ⟨blk, 0, none⟩)] w fun e w' => e = .returned (.int .u8 (ft a b : Nat)) ∧ w' = w := by
  go_enter Try.func41, Try.ntmps41
  go_wp2_with (refine wpList_load_row rfl 64 _ rfl blk rfl 64 (parts a) _ _ h Try.underlying64 rfl (by kernel_rfl) ?_)
  go_loop [4, 5, 6, 8] (fun o i' p i => ∃ k : Nat, ∃ u v : Value, k ≤ 8 ∧ i = .int .i64 k ∧ i' = u ∧ p = v ∧ o = .int .u8 (acc a b k : Nat)) (fun _ _ _ i => 8 - (intOf i).toNat)
  case atStart => exact ⟨0, _, _, by omega, rfl, rfl, rfl, rfl⟩
  case round =>
    obtain ⟨k, u, v, hk, rfl, rfl, rfl, rfl⟩ := hrel
    by_cases hlt : k < 8
    · have hx := xtN_lt a ha k
      have ho := acc_lt a b ha k
      have hix := parts_at a k hlt
      go_wp2
      all_goals
        refine ⟨⟨k + 1, _, _, by omega, by go_num, rfl, rfl, ?_⟩, by simp [intOf]; omega⟩
        first | exact int_u8 (acc_step_yes a b k ha hb ‹_›) | exact int_u8 (acc_step_no a b k hb ‹_›)
    · have hk8 : k = 8 := by omega
      subst hk8
      go_wp2
      go_ret
      exact ⟨rfl, rfl⟩

set_option maxRecDepth 100000 in
theorem ift (a b : Nat) (ha : a < 256) (hb : b < 256) (w : World) :
    Calls Try.prog 10 #[.int .u8 (a : Int), .int .u8 (b : Int)] w fun e w' => e = .returned (.int .u8 (ft a b : Nat)) ∧ w' = w.alloc (.cells (parts a) 64) := by
  have hn := heap_alloc_new w (.cells (parts a) 64)
  go_enter Try.func10, Try.ntmps10
  go_wp2_with (first | (go_at_call 29; refine (pof _ ha _).mono ?_; rintro e w' ⟨rfl, rfl⟩) | (go_at_call 41; refine (pcl a b ha hb _ _ hn).mono ?_; rintro e w' ⟨rfl, rfl⟩))
  go_ret
  exact ⟨rfl, rfl⟩

end Go.Proofs.Ythkicdgkhlkndaa.W
