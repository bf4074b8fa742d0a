/-
  Inverses of bytes, and the box: what the model's functions and the program's answer.
-/
import Derived.Test.YthkicdgkhlkndaaFtWalks
import Derived.Test.YthkicdgkhlkndaaField
namespace Go.Proofs.Ythkicdgkhlkndaa.W
open Go.ChangeShapes Go.WideShapes Go.ChangeAt Go.RowKit
open Go.Proofs.Ythkicdgkhlkndaa.M

set_option maxRecDepth 100000 in
theorem sinv (a : Nat) (ha : a < 256) (w : World) :
    Calls Try.prog 12 #[.int .u8 (a : Int)] w fun e w' => e = .returned (.int .u8 (finv a : Nat)) ∧ w' = w := by
  by_cases h0 : a = 0
  · subst h0
    have h0 : (((0 : Nat) : Int) == 0) = true := rfl
    have Hf : Hid (finv 0 = 0) := finv_zero
    go_enter Try.func12, Try.ntmps12
    go_wp2
    go_ret
    exact ⟨ret_int (by rw [Hf.out]; rfl), rfl⟩
  · have h1 : ((a : Int) == 0) = false := by simp; omega
    have hp := finv_pos a ha h0
    have hl := finv_lt a ha
    go_enter Try.func12, Try.ntmps12
    go_wp2
    go_loop [3] (fun i => ∃ k : Nat, 1 ≤ k ∧ k ≤ finv a ∧ i = .int .i64 k) (fun i => 256 - (intOf i).toNat)
    case atStart => exact ⟨1, by omega, hp, rfl⟩
    case round =>
      obtain ⟨k, hk1, hk2, rfl⟩ := hrel
      have hk : k < 256 := by omega
      by_cases he : k = finv a
      · have ht : (((ft a k : Nat) : Int) == 1) = true := by rw [he, finv_ok a ha h0]; rfl
        have He : Hid (k = finv a) := he
        clear he
        go_wp2_with (go_at_call 11; refine (sft a k ha hk _).mono ?_; rintro e w' ⟨rfl, rfl⟩)
        go_ret
        exact ⟨ret_int (by rw [← He.out]), rfl⟩
      · have ht : (((ft a k : Nat) : Int) == 1) = false := by
          have : ft a k ≠ 1 := fun e => he (finv_one a k ha hk h0 e)
          simp; omega
        go_wp2_with (go_at_call 11; refine (sft a k ha hk _).mono ?_; rintro e w' ⟨rfl, rfl⟩)
        go_round
        case rel => exact ⟨k + 1, by omega, by omega, by go_num⟩
        case measure => simp [intOf]; omega

set_option maxRecDepth 100000 in
theorem iinv (a : Nat) (ha : a < 256) (w : World) :
    Calls Try.prog 9 #[.int .u8 (a : Int)] w fun e w' => e = .returned (.int .u8 (finv a : Nat)) ∧ Below w.heap.size w w' := by
  go_enter Try.func9, Try.ntmps9
  go_wp2_with (go_at_call 10; refine (ift a a ha ha _).mono ?_; rintro e w' ⟨rfl, rfl⟩)
  go_loopw [3, 4, 5, 9] (fun iv sq t i wr => ∃ k : Nat, ∃ v : Value, k ≤ 7 ∧ i = .int .i64 k ∧ iv = .int .u8 ((invTo a k).1 : Nat) ∧ sq = .int .u8 ((invTo a k).2 : Nat) ∧ t = v ∧ Below w.heap.size w wr) (fun _ _ _ i _ => 7 - (intOf i).toNat)
  case atStart => exact ⟨0, _, by omega, rfl, rfl, rfl, rfl, (Below.refl _ _).alloc (Nat.le_refl _) _⟩
  case round =>
    obtain ⟨k, v, hk, rfl, rfl, rfl, rfl, hb⟩ := hrel
    by_cases hlt : k < 7
    · have h1 := (invTo_lt a ha k).1
      have h2 := (invTo_lt a ha k).2
      have E1 : Hid ((invTo a (k + 1)).1 = ft (invTo a k).2 (invTo a k).1) := rfl
      have E2 : Hid ((invTo a (k + 1)).2 = ft (invTo a k).2 (invTo a k).2) := rfl
      generalize (invTo a k).1 = x at *
      generalize (invTo a k).2 = y at *
      have hn := heap_alloc_new wr (.cells (parts y) 64)
      have hsz := hb.size
      go_wp2_with (go_at_call 29; refine (pof _ h2 _).mono ?_; rintro e w' ⟨rfl, rfl⟩)
      refine (pcl y x h2 h1 _ _ hn).mono ?_
      rintro e w' ⟨rfl, rfl⟩
      go_wp2_with fail
      refine (pcl y y h2 h2 _ _ hn).mono ?_
      rintro e w' ⟨rfl, rfl⟩
      go_wp2_with fail
      go_roundw
      case rel => exact ⟨k + 1, _, by omega, by go_num, by rw [E1.out], by rw [E2.out], rfl, hb.alloc (by omega) _⟩
      case measure => simp [intOf]; omega
    · have hk7 : k = 7 := by omega
      subst hk7
      go_wp2
      go_ret
      exact ⟨rfl, hb⟩

theorem rot_0 (x : Nat) (hx : x < 256) : bits .or .u8 (x : Int) ((x : Int) / 256) = ((rot x 0 : Nat) : Int) := by
  have h := rot_at x 1 256 hx
  have e : (x : Int) * ((1 : Nat) : Int) % 256 = x := by omega
  rw [e] at h
  exact h

theorem rotl (x : Nat) (k : Int) (hx : x < 256) (hk : k = 0 ∨ k = -4 ∨ k = -5 ∨ k = -6 ∨ k = -7) (w : World) :
    Calls Try.prog 30 #[.int .u8 (x : Int), .int .i64 k] w fun e w' => e = .returned (.int .u8 (rot x (-k).toNat : Nat)) ∧ w' = w := by
  have f0 : bits .and .u64 0 7 = 0 := by decide +kernel
  have f4 : bits .and .u64 (IntKind.u64.wrap (-4)) 7 = 4 := by decide +kernel
  have f5 : bits .and .u64 (IntKind.u64.wrap (-5)) 7 = 3 := by decide +kernel
  have f6 : bits .and .u64 (IntKind.u64.wrap (-6)) 7 = 2 := by decide +kernel
  have f7 : bits .and .u64 (IntKind.u64.wrap (-7)) 7 = 1 := by decide +kernel
  rcases hk with rfl | rfl | rfl | rfl | rfl
  all_goals
    go_enter Try.func30, Try.ntmps30
    go_wp2
    go_ret
    refine ⟨ret_int ?_, rfl⟩
  · exact rot_0 x hx
  · exact rot_4 x hx
  · exact rot_5 x hx
  · exact rot_6 x hx
  · exact rot_7 x hx

set_option maxRecDepth 100000 in
theorem isub (a : Nat) (ha : a < 256) (w : World) :
    Calls Try.prog 13 #[.int .u8 (a : Int)] w fun e w' => e = .returned (.int .u8 (sbx a : Nat)) ∧ Below w.heap.size w w' := by
  have hl := finv_lt a ha
  have X : Hid (sbx a = ((((99 ^^^ rot (finv a) 0) ^^^ rot (finv a) 4) ^^^ rot (finv a) 5) ^^^ rot (finv a) 6) ^^^ rot (finv a) 7) := rfl
  go_enter Try.func13, Try.ntmps13
  go_wp2_with (go_at_call 9; refine (iinv a ha _).mono ?_; rintro e w' ⟨rfl, hb⟩)
  generalize finv a = x at *
  have i0 : ∀ w : World, (Instr.index 49 (.agg #[.int .i64 0, .int .i64 4, .int .i64 5, .int .i64 6, .int .i64 7]) (.int .i64 0)).run Try.prog w = .ok (.int .i64 0) w := fun _ => by kernel_rfl
  have i1 : ∀ w : World, (Instr.index 49 (.agg #[.int .i64 0, .int .i64 4, .int .i64 5, .int .i64 6, .int .i64 7]) (.int .i64 1)).run Try.prog w = .ok (.int .i64 4) w := fun _ => by kernel_rfl
  have i2 : ∀ w : World, (Instr.index 49 (.agg #[.int .i64 0, .int .i64 4, .int .i64 5, .int .i64 6, .int .i64 7]) (.int .i64 2)).run Try.prog w = .ok (.int .i64 5) w := fun _ => by kernel_rfl
  have i3 : ∀ w : World, (Instr.index 49 (.agg #[.int .i64 0, .int .i64 4, .int .i64 5, .int .i64 6, .int .i64 7]) (.int .i64 3)).run Try.prog w = .ok (.int .i64 6) w := fun _ => by kernel_rfl
  have i4 : ∀ w : World, (Instr.index 49 (.agg #[.int .i64 0, .int .i64 4, .int .i64 5, .int .i64 6, .int .i64 7]) (.int .i64 4)).run Try.prog w = .ok (.int .i64 7) w := fun _ => by kernel_rfl
  refine wp_loop_rounds 6 ?_
  iterate 6
    rw [rounds_succ]
    go_wp2_with (go_at_call 30; refine (rotl x _ hl ?_ _).mono ?_; (omega); rintro e w' ⟨rfl, rfl⟩)
  go_ret
  exact ⟨ret_int (by rw [X.out]; exact sbx_sum x hl), hb⟩

end Go.Proofs.Ythkicdgkhlkndaa.W
