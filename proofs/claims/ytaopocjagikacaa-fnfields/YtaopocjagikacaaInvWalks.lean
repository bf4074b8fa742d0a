/-
  Inverses of bytes, and the box: what the model's functions and the program's answer.
-/
import Derived.Test.YtaopocjagikacaaFtWalks
import Derived.Test.YtaopocjagikacaaField
import Derived.Test.YtaopocjagikacaaBoiWalks
namespace Go.Proofs.Ytaopocjagikacaa.W
open Go.ChangeShapes Go.WideShapes Go.ChangeAt Go.RowKit
open Go.Proofs.Ytaopocjagikacaa.M

set_option maxRecDepth 100000 in
theorem sinv (a : Nat) (ha : a < 256) (w : World) :
    Calls Try.prog 15 #[.int .u8 (a : Int)] w fun e w' => e = .returned (.int .u8 (finv a : Nat)) ∧ w' = w := by
  by_cases h0 : a = 0
  · subst h0
    have h0 : (((0 : Nat) : Int) == 0) = true := rfl
    have Hf : Hid (finv 0 = 0) := finv_zero
    go_enter Try.func15, Try.ntmps15
    go_wp2
    go_ret
    exact ⟨ret_int (by rw [Hf.out]; rfl), rfl⟩
  · have h1 : ((a : Int) == 0) = false := by simp; omega
    have hp := finv_pos a ha h0
    have hl := finv_lt a ha
    go_enter Try.func15, Try.ntmps15
    go_wp2
    go_loop [3] (fun i => ∃ k : Nat, 1 ≤ k ∧ k ≤ finv a ∧ i = .int .i64 k) (fun i => 256 - (intOf i).toNat)
    case atStart => exact ⟨1, by omega, hp, rfl⟩
    case round =>
      obtain ⟨k, hk1, hk2, rfl⟩ := hrel
      have hk : k < 256 := by omega
      by_cases he : k = finv a
      · have ht : (((ft a k : Nat) : Int) == 1) = true := by rw [he, finv_ok a ha h0]; rfl
        have He : Hid (k = finv a) := he
        clear he
        go_wp2_with (go_at_call 14; refine (sft a k ha hk _).mono ?_; rintro e w' ⟨rfl, rfl⟩)
        go_ret
        exact ⟨ret_int (by rw [← He.out]), rfl⟩
      · have ht : (((ft a k : Nat) : Int) == 1) = false := by
          have : ft a k ≠ 1 := fun e => he (finv_one a k ha hk h0 e)
          simp; omega
        go_wp2_with (go_at_call 14; refine (sft a k ha hk _).mono ?_; rintro e w' ⟨rfl, rfl⟩)
        go_round
        case rel => exact ⟨k + 1, by omega, by omega, by go_num⟩
        case measure => simp [intOf]; omega

set_option maxRecDepth 100000 in
theorem iinv (a : Nat) (ha : a < 256) (w : World) :
    Calls Try.prog 12 #[.int .u8 (a : Int)] w fun e w' => e = .returned (.int .u8 (finv a : Nat)) ∧ Below w.heap.size w w' := by
  go_enter Try.func12, Try.ntmps12
  go_wp2_with (go_at_call 13; refine (ift a a ha ha _).mono ?_; rintro e w' ⟨rfl, rfl⟩)
  go_loopw [3, 4, 5, 9] (fun iv sq t i wr => ∃ k : Nat, ∃ v : Value, k ≤ 7 ∧ i = .int .i64 k ∧ iv = .int .u8 ((invTo a k).1 : Nat) ∧ sq = .int .u8 ((invTo a k).2 : Nat) ∧ t = v ∧ Below w.heap.size w wr) (fun _ _ _ i _ => 7 - (intOf i).toNat)
  case atStart => exact ⟨0, _, by omega, rfl, rfl, rfl, rfl, (Below.refl _ _).alloc (Nat.le_refl _) _⟩
  case round =>
    obtain ⟨k, v, hk, rfl, rfl, rfl, rfl, hb⟩ := hrel
    by_cases hlt : k < 7
    · have h1 := (invTo_lt a ha k).1
      have h2 := (invTo_lt a ha k).2
      have E1 : Hid ((invTo a (k + 1)).1 = ft (invTo a k).2 (invTo a k).1) := rfl
      have E2 : Hid ((invTo a (k + 1)).2 = ft (invTo a k).2 (invTo a k).2) := rfl
      generalize (invTo a k).1 = x at *
      generalize (invTo a k).2 = y at *
      have hn := heap_alloc_new wr (.cells (parts y) 86)
      have hsz := hb.size
      go_wp2_with (go_at_call 51; refine (pof _ h2 _).mono ?_; rintro e w' ⟨rfl, rfl⟩)
      refine (pcl y x h2 h1 _ _ hn).mono ?_
      rintro e w' ⟨rfl, rfl⟩
      go_wp2_with fail
      refine (pcl y y h2 h2 _ _ hn).mono ?_
      rintro e w' ⟨rfl, rfl⟩
      go_wp2_with fail
      go_roundw
      case rel => exact ⟨k + 1, _, by omega, by go_num, by rw [E1.out], by rw [E2.out], rfl, hb.alloc (by omega) _⟩
      case measure => simp [intOf]; omega
    · have hk7 : k = 7 := by omega
      subst hk7
      go_wp2
      go_ret
      exact ⟨rfl, hb⟩

theorem isub (a : Nat) (ha : a < 256) (w : World) :
    Calls Try.prog 16 #[.int .u8 (a : Int)] w fun e w' => e = .returned (.int .u8 (sbx a : Nat)) ∧ Below w.heap.size w w' := by
  have hl := finv_lt a ha
  have X : Hid (sbx a = bi (finv a)) := rfl
  go_enter Try.func16, Try.ntmps16
  go_wp2_with fail
  refine (iinv a ha _).mono ?_
  rintro e w' ⟨rfl, hb⟩
  generalize finv a = x at *
  go_wp2_with fail
  refine (boi x hl _).mono ?_
  rintro e w'' ⟨rfl, rfl⟩
  go_wp2
  go_ret
  exact ⟨ret_int (by rw [X.out]), hb⟩

end Go.Proofs.Ytaopocjagikacaa.W
