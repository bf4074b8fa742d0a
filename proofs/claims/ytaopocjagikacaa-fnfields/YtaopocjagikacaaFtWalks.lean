/-
  The products of bytes: what the program's FieldTimes and its callees answer.
-/
import Derived.Test.YtaopocjagikacaaSftWalks
import Derived.Test.YtaopocjagikacaaTpWalks
namespace Go.Proofs.Ytaopocjagikacaa.W
open Go.ChangeShapes Go.WideShapes Go.ChangeAt Go.RowKit
open Go.Proofs.Ytaopocjagikacaa.M

/-- The parts of the products of a. -/
def parts (a : Nat) : Array Value := #[.int .u8 (xtN a 0 : Nat), .int .u8 (xtN a 1 : Nat), .int .u8 (xtN a 2 : Nat), .int .u8 (xtN a 3 : Nat), .int .u8 (xtN a 4 : Nat), .int .u8 (xtN a 5 : Nat), .int .u8 (xtN a 6 : Nat), .int .u8 (xtN a 7 : Nat)]

set_option maxRecDepth 100000 in
theorem pof (a : Nat) (ha : a < 256) (w : World) :
    Calls Try.prog 51 #[.int .u8 (a : Int)] w fun e w' => e = .returned (.func (.func 81) #[] #[.pointer (some ⟨w.heap.size, 0, none⟩)]) ∧ w' = w.alloc (.cells (parts a) 86) := by
  have hmf : ∀ (fn : Fn) (first cap : Array Value) (w : World), (Instr.makeFunc fn first cap).run Try.prog w = .ok (.func fn first cap) w := fun _ _ _ _ => rfl
  go_enter Try.func51, Try.ntmps51
  go_wp2
  refine wp_loop_rounds 9 ?_
  iterate 9
    rw [rounds_succ]
    go_wp2_with (go_at_call 66; refine (tp1 _ ?_ _).mono ?_; (first | exact ha | exact xt_lt _); rintro e w' ⟨rfl, rfl⟩)
  go_ret
  exact ⟨rfl, rfl⟩

theorem parts_at (a : Nat) : ∀ (k : Nat), k < 8 → ∀ w : World, (Instr.index 86 (.agg (parts a)) (.int .i64 (k : Int))).run Try.prog w = .ok (.int .u8 (xtN a k : Nat)) w
  | 0, _, _ => by kernel_rfl
  | 1, _, _ => by kernel_rfl
  | 2, _, _ => by kernel_rfl
  | 3, _, _ => by kernel_rfl
  | 4, _, _ => by kernel_rfl
  | 5, _, _ => by kernel_rfl
  | 6, _, _ => by kernel_rfl
  | 7, _, _ => by kernel_rfl
  | n + 8, h, _ => by omega

set_option maxRecDepth 100000 in
theorem pcl (a b : Nat) (ha : a < 256) (hb : b < 256) (w : World) (blk : Nat) (h : w.heap[blk]? = some (.cells (parts a) 86)) :
    Calls Try.prog 81 #[.int .u8 (b : Int), .pointer (some ⟨blk, 0, none⟩)] w fun e w' => e = .returned (.int .u8 (ft a b : Nat)) ∧ w' = w := by
  go_enter Try.func81, Try.ntmps81
  go_wp2_with (refine wpList_load_row rfl 86 _ rfl blk rfl 86 (parts a) _ _ h Try.underlying86 rfl (by kernel_rfl) ?_)
  go_loop [4, 5, 6, 8] (fun o i' p i => ∃ k : Nat, ∃ u v : Value, k ≤ 8 ∧ i = .int .i64 k ∧ i' = u ∧ p = v ∧ o = .int .u8 (acc a b k : Nat)) (fun _ _ _ i => 8 - (intOf i).toNat)
  case atStart => exact ⟨0, _, _, by omega, rfl, rfl, rfl, rfl⟩
  case round =>
    obtain ⟨k, u, v, hk, rfl, rfl, rfl, rfl⟩ := hrel
    by_cases hlt : k < 8
    · have hx := xtN_lt a ha k
      have ho := acc_lt a b ha k
      have hix := parts_at a k hlt
      go_wp2
      all_goals
        refine ⟨⟨k + 1, _, _, by omega, by go_num, rfl, rfl, ?_⟩, by simp [intOf]; omega⟩
        first | exact int_u8 (acc_step_yes a b k ha hb ‹_›) | exact int_u8 (acc_step_no a b k hb ‹_›)
    · have hk8 : k = 8 := by omega
      subst hk8
      go_wp2
      go_ret
      exact ⟨rfl, rfl⟩

set_option maxRecDepth 100000 in
theorem ift (a b : Nat) (ha : a < 256) (hb : b < 256) (w : World) :
    Calls Try.prog 13 #[.int .u8 (a : Int), .int .u8 (b : Int)] w fun e w' => e = .returned (.int .u8 (ft a b : Nat)) ∧ w' = w.alloc (.cells (parts a) 86) := by
  have hn := heap_alloc_new w (.cells (parts a) 86)
  go_enter Try.func13, Try.ntmps13
  go_wp2_with (first | (go_at_call 51; refine (pof _ ha _).mono ?_; rintro e w' ⟨rfl, rfl⟩) | (go_at_call 81; refine (pcl a b ha hb _ _ hn).mono ?_; rintro e w' ⟨rfl, rfl⟩))
  go_ret
  exact ⟨rfl, rfl⟩

end Go.Proofs.Ytaopocjagikacaa.W
