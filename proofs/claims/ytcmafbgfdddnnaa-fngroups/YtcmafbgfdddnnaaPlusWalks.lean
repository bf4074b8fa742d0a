/-
  Sums of group elements, and what is times the power 1: the program's powerZero, plus, raised.
-/
import Derived.Test.YtcmafbgfdddnnaaElM
import Derived.StillTailTactics
namespace Go.Proofs.Ytcmafbgfdddnnaa.W
open Go.ChangeShapes Go.WideShapes Go.ChangeAt Go.RowKit
open Go.Proofs.Ytcmafbgfdddnnaa.M

theorem pzero (w : World) : Calls Try.prog 108 #[] w fun e w' => e = .returned (.int .u64 9223372036854775808) ∧ w' = w := by
  go_enter Try.func108, Try.ntmps108
  go_wp2
  go_ret
  exact ⟨rfl, rfl⟩

theorem gplus (a b c d : Nat) (w : World) (ha : a < 18446744073709551616) (hb : b < 18446744073709551616) (hc : c < 18446744073709551616) (hd : d < 18446744073709551616) :
    Calls Try.prog 105 #[.agg #[.int .u64 (a : Int), .int .u64 (b : Int)], .agg #[.int .u64 (c : Int), .int .u64 (d : Int)]] w fun e w' => e = .returned (.agg #[.int .u64 ((a ^^^ c : Nat) : Int), .int .u64 ((b ^^^ d : Nat) : Int)]) ∧ Below w.heap.size w w' := by
  have e1 := u64_xor_nat a c ha hc
  have e2 := u64_xor_nat b d hb hd
  go_enter Try.func105, Try.ntmps105
  go_wp2
  exact bodyPost_ret (v := .agg #[.int .u64 ((a ^^^ c : Nat) : Int), .int .u64 ((b ^^^ d : Nat) : Int)]) (by simp [results, Try.results105, go_sem]) rfl ⟨rfl, below_alloc3 w _ _ _⟩
theorem and1 (a : Nat) (h : a < 18446744073709551616) : bits .and .u64 (a : Int) 1 = ((a % 2 : Nat) : Int) := by
  rw [show (1 : Int) = ((1 : Nat) : Int) from rfl, u64_and_nat _ _ h (by omega), nat_mask1]
theorem odd_yes (a : Nat) (h : a < 18446744073709551616) (h1 : a % 2 = 1) : (bits .and .u64 (a : Int) 1 == 1) = true := by rw [and1 a h, h1]; rfl
theorem odd_no (a : Nat) (h : a < 18446744073709551616) (h1 : ¬ a % 2 = 1) : (bits .and .u64 (a : Int) 1 == 1) = false := by rw [and1 a h, show a % 2 = 0 by omega]; rfl
theorem or_top (a : Nat) (h : a < 9223372036854775808) : bits .or .u64 (a : Int) 9223372036854775808 = ((a ^^^ 9223372036854775808 : Nat) : Int) := by
  rw [show (9223372036854775808 : Int) = ((9223372036854775808 : Nat) : Int) from rfl, u64_or_nat _ _ (by omega) (by omega)]
  congr 1
  apply Nat.eq_of_testBit_eq
  intro k
  rw [Nat.testBit_or, Nat.testBit_xor]
  by_cases hk : k = 63
  · subst hk
    rw [Nat.testBit_lt_two_pow (x := a) (i := 63) h]
    rfl
  · have e : (9223372036854775808 : Nat).testBit k = false := by
      have := Nat.testBit_two_pow (n := 63) (m := k)
      rw [show (9223372036854775808 : Nat) = 2 ^ 63 from rfl, this]
      simp; omega
    rw [e]
    simp

theorem gxV {p : Nat × Nat} {x y : Nat} (h1 : (gx p).1 = x) (h2 : (gx p).2 = y) : ev (gx p) = .agg #[.int .u64 (x : Int), .int .u64 (y : Int)] := by rw [ev, ec, h1, h2]
theorem n225 : ((16212958658533785600 : Nat) : Int) = 16212958658533785600 := rfl
theorem n0 : ((0 : Nat) : Int) = 0 := rfl
set_option maxRecDepth 100000 in
theorem grise (p : Nat × Nat) (w : World) (hp : G64 p) :
    Calls Try.prog 109 #[.agg #[.int .u64 (p.1 : Int), .int .u64 (p.2 : Int)], .agg #[.int .u64 16212958658533785600, .int .u64 0]] w fun e w' => e = .returned (ev (gx p)) ∧ Below w.heap.size w w' := by
  obtain ⟨a, b⟩ := p
  obtain ⟨ha, hb⟩ := hp
  simp only at ha hb
  have ea : ((a / 2 : Nat) : Int) = (a : Int) / 2 := by omega
  have eb : ((b / 2 : Nat) : Int) = (b : Int) / 2 := by omega
  by_cases h1 : a % 2 = 1
  · by_cases h2 : b % 2 = 1
    · have c1 := odd_yes a ha h1
      have c2 := odd_yes b hb h2
      have o1 := or_top (b / 2) (by omega)
      have o2 : b / 2 ^^^ 9223372036854775808 < 18446744073709551616 := xlt64 _ _ (by omega) (by omega)
      have q1 := u64_xor_nat (a / 2) 16212958658533785600 (by omega) (by decide)
      have q2 := u64_xor_nat (b / 2 ^^^ 9223372036854775808) 0 o2 (by decide)
      have E := hid (gxV (p := (a, b)) (x := a / 2 ^^^ 16212958658533785600) (y := (b / 2 ^^^ 9223372036854775808) ^^^ 0) (by simp [gx, h2]) (by simp [gx, h1]))
      rw [eb] at o1
      rw [ea] at q1
      simp only [n225, n0] at q1 q2
      clear ea eb
      go_enter Try.func109, Try.ntmps109
      go_wp2_with fail
      refine wp_region_still_tail 5 (by kernel_rfl) (by kernel_rfl) ?_
      change wpStill _ _ (World.drew _) (fun a' => wpList _ _ _ _ a' (World.drew _)) _ _
      simp only [List.take_succ_cons, List.take_zero, List.drop_succ_cons, List.drop_zero]
      still_step
      still_step
      still_call (pzero _)
      still_step
      still_step
      refine wpStill_nil ?_
      go_wp2
      refine bodyPost_ret (v := .agg #[.int .u64 (((a / 2 ^^^ 16212958658533785600 : Nat) : Int)), .int .u64 ((((b / 2 ^^^ 9223372036854775808) ^^^ 0 : Nat) : Int))]) (by simp [results, Try.results105, go_sem]) rfl ?_
      go_wp2
      exact bodyPost_ret (v := .agg #[.int .u64 (((a / 2 ^^^ 16212958658533785600 : Nat) : Int)), .int .u64 ((((b / 2 ^^^ 9223372036854775808) ^^^ 0 : Nat) : Int))]) (by simp [results, Try.results109, go_sem]) rfl ⟨by first | (rw [E.out]; done) | (rw [E.out]; rfl), by repeat (first | exact Below.refl _ _ | apply Below.drew | refine Below.alloc ?_ (by simp; try omega) _)⟩
    · have c1 := odd_yes a ha h1
      have c2 := odd_no b hb h2
      have o1 := or_top (b / 2) (by omega)
      have o2 : b / 2 ^^^ 9223372036854775808 < 18446744073709551616 := xlt64 _ _ (by omega) (by omega)
      have E := hid (gxV (p := (a, b)) (x := a / 2) (y := b / 2 ^^^ 9223372036854775808) (by simp [gx, h2]) (by simp [gx, h1]))
      rw [eb] at o1
      clear ea eb
      go_enter Try.func109, Try.ntmps109
      go_wp2_with fail
      refine wp_region_still_tail 5 (by kernel_rfl) (by kernel_rfl) ?_
      change wpStill _ _ (World.drew _) (fun a' => wpList _ _ _ _ a' (World.drew _)) _ _
      simp only [List.take_succ_cons, List.take_zero, List.drop_succ_cons, List.drop_zero]
      still_step
      still_step
      still_call (pzero _)
      still_step
      still_step
      refine wpStill_nil ?_
      go_wp2
      exact bodyPost_ret (v := .agg #[.int .u64 ((a : Int) / 2), .int .u64 (((b / 2 ^^^ 9223372036854775808 : Nat) : Int))]) (by simp [results, Try.results109, go_sem]) rfl ⟨by first | (rw [E.out]; done) | (rw [E.out]; rfl), by repeat (first | exact Below.refl _ _ | apply Below.drew | refine Below.alloc ?_ (by simp; try omega) _)⟩
  · by_cases h2 : b % 2 = 1
    · have c1 := odd_no a ha h1
      have c2 := odd_yes b hb h2
      have q1 := u64_xor_nat (a / 2) 16212958658533785600 (by omega) (by decide)
      have q2 := u64_xor_nat (b / 2) 0 (by omega) (by decide)
      have E := hid (gxV (p := (a, b)) (x := a / 2 ^^^ 16212958658533785600) (y := (b / 2) ^^^ 0) (by simp [gx, h2]) (by simp [gx, h1]))
      rw [ea] at q1
      rw [eb] at q2
      simp only [n225, n0] at q1 q2
      clear ea eb
      go_enter Try.func109, Try.ntmps109
      go_wp2
      refine bodyPost_ret (v := .agg #[.int .u64 (((a / 2 ^^^ 16212958658533785600 : Nat) : Int)), .int .u64 ((((b / 2) ^^^ 0 : Nat) : Int))]) (by simp [results, Try.results105, go_sem]) rfl ?_
      go_wp2
      exact bodyPost_ret (v := .agg #[.int .u64 (((a / 2 ^^^ 16212958658533785600 : Nat) : Int)), .int .u64 ((((b / 2) ^^^ 0 : Nat) : Int))]) (by simp [results, Try.results109, go_sem]) rfl ⟨by first | (rw [E.out]; done) | (rw [E.out]; rfl), by repeat (first | exact Below.refl _ _ | apply Below.drew | refine Below.alloc ?_ (by simp; try omega) _)⟩
    · have c1 := odd_no a ha h1
      have c2 := odd_no b hb h2
      have E := hid (gxV (p := (a, b)) (x := a / 2) (y := b / 2) (by simp [gx, h2]) (by simp [gx, h1]))
      clear ea eb
      go_enter Try.func109, Try.ntmps109
      go_wp2
      exact bodyPost_ret (v := .agg #[.int .u64 ((a : Int) / 2), .int .u64 ((b : Int) / 2)]) (by simp [results, Try.results109, go_sem]) rfl ⟨by first | (rw [E.out]; done) | (rw [E.out]; rfl), by repeat (first | exact Below.refl _ _ | apply Below.drew | refine Below.alloc ?_ (by simp; try omega) _)⟩
theorem gplusE (p q : Nat × Nat) (w : World) (hp : G64 p) (hq : G64 q) :
    Calls Try.prog 105 #[.agg (ec p), .agg (ec q)] w fun e w' => e = .returned (.agg (ec (ga p q))) ∧ Below w.heap.size w w' := gplus _ _ _ _ w hp.1 hp.2 hq.1 hq.2
theorem griseE (p : Nat × Nat) (w : World) (hp : G64 p) :
    Calls Try.prog 109 #[.agg (ec p), .agg (ec (16212958658533785600, 0))] w fun e w' => e = .returned (.agg (ec (gx p))) ∧ Below w.heap.size w w' := grise p w hp
end Go.Proofs.Ytcmafbgfdddnnaa.W
