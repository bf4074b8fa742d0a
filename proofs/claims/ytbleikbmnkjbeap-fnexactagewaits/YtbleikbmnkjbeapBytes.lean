/-
  Plain mathematics of bytes as polynomials: no program is named here.
-/
import Derived.Laws.BitsAllLaws
import Derived.Below
import Derived.OpenShut
namespace Go.Proofs.Ytbleikbmnkjbeap.M
open Go.RowKit

/-- A byte times the power 1. -/
def xt (a : Nat) : Nat := if a / 128 = 1 then (a * 2 % 256) ^^^ 27 else a * 2 % 256
theorem xt_lt (a : Nat) : xt a < 256 := by
  unfold xt
  split
  · exact Nat.xor_lt_two_pow (n := 8) (by omega) (by omega)
  · omega
def xtN (a : Nat) : Nat → Nat
  | 0 => a
  | k + 1 => xt (xtN a k)
theorem xtN_lt (a : Nat) (ha : a < 256) : ∀ k, xtN a k < 256
  | 0 => ha
  | _ + 1 => xt_lt _
/-- The sum of the first k parts of a product. -/
def acc (a b : Nat) : Nat → Nat
  | 0 => 0
  | k + 1 => if b / 2 ^ k % 2 = 1 then acc a b k ^^^ xtN a k else acc a b k
theorem acc_lt (a b : Nat) (ha : a < 256) : ∀ k, acc a b k < 256
  | 0 => by simp [acc]
  | k + 1 => by
    have h1 := acc_lt a b ha k
    have h2 := xtN_lt a ha k
    unfold acc
    split
    · exact Nat.xor_lt_two_pow (n := 8) (by omega) (by omega)
    · exact h1
def ft (a b : Nat) : Nat := acc a b 8
theorem ft_lt (a b : Nat) (ha : a < 256) : ft a b < 256 := acc_lt a b ha 8

theorem half_pow (b k : Nat) : b / 2 ^ k / 2 = b / 2 ^ (k + 1) := by rw [Nat.div_div_eq_div_mul, Nat.pow_succ]
theorem acc_yes (a b k : Nat) (h : b / 2 ^ k % 2 = 1) : acc a b (k + 1) = acc a b k ^^^ xtN a k := by rw [acc, if_pos h]
theorem acc_no (a b k : Nat) (h : ¬ b / 2 ^ k % 2 = 1) : acc a b (k + 1) = acc a b k := by rw [acc, if_neg h]

/-- How the walk writes it. -/
theorem xor8 (a b : Nat) (ha : a < 256) (hb : b < 256) : bits .xor .u8 (a : Int) (b : Int) = ((a ^^^ b : Nat) : Int) := u8_xor_nat a b ha hb
theorem xt_hi (x : Nat) (h : 128 ≤ (x : Int)) (h' : x < 256) : bits .xor .u8 ((x : Int) * 2 % 256) 27 = ((xt x : Nat) : Int) := by
  have e : ((x : Int) * 2 % 256) = ((x * 2 % 256 : Nat) : Int) := by omega
  rw [e, show (27 : Int) = ((27 : Nat) : Int) from rfl, xor8 _ _ (by omega) (by omega), xt, if_pos (by omega)]
theorem xt_lo (x : Nat) (h : (x : Int) < 128) : (x : Int) * 2 % 256 = ((xt x : Nat) : Int) := by
  rw [xt, if_neg (by omega)]; omega
theorem xt_hi' (x : Nat) (h : ((x : Int) / 128 == 1) = true) (h' : x < 256) : bits .xor .u8 ((x : Int) * 2 % 256) 27 = ((xt x : Nat) : Int) := by
  have h := beq_iff_eq.1 h
  exact xt_hi x (by omega) h'
theorem xt_lo' (x : Nat) (h : ((x : Int) / 128 == 1) = false) (h' : x < 256) : (x : Int) * 2 % 256 = ((xt x : Nat) : Int) := by
  have h := beq_eq_false_iff_ne.1 h
  exact xt_lo x (by omega)
theorem int_u8 {a b : Int} (h : a = b) : Value.int .u8 a = .int .u8 b := by rw [h]
theorem int_i64 {a b : Int} (h : a = b) : Value.int .i64 a = .int .i64 b := by rw [h]
theorem ret_int {k : IntKind} {a b : Int} (h : a = b) : Ending.returned (.int k a) = .returned (.int k b) := by rw [h]
theorem bit_at (b k : Nat) (hb : b < 256) : bits .and .u8 ((b : Int) / 2 ^ k) 1 = ((b / 2 ^ k % 2 : Nat) : Int) := by
  have h : b / 2 ^ k < 256 := Nat.lt_of_le_of_lt (Nat.div_le_self _ _) hb
  have e : ((b : Int) / 2 ^ k) = ((b / 2 ^ k : Nat) : Int) := by simp
  rw [e, show (1 : Int) = ((1 : Nat) : Int) from rfl, u8_and_nat _ _ h (by omega), nat_mask1]
theorem bit_yes (b k : Nat) (hb : b < 256) (h : (bits .and .u8 ((b : Int) / 2 ^ k) 1 == 1) = true) : b / 2 ^ k % 2 = 1 := by
  have h := beq_iff_eq.1 h
  rw [bit_at b k hb] at h
  omega
theorem bit_no (b k : Nat) (hb : b < 256) (h : (bits .and .u8 ((b : Int) / 2 ^ k) 1 == 1) = false) : ¬ b / 2 ^ k % 2 = 1 := by
  have h := beq_eq_false_iff_ne.1 h
  rw [bit_at b k hb] at h
  omega
theorem acc_step_yes (a b k : Nat) (ha : a < 256) (hb : b < 256) (h : (bits .and .u8 ((b : Int) / 2 ^ k) 1 == 1) = true) : bits .xor .u8 (acc a b k : Nat) (xtN a k : Nat) = ((acc a b (k + 1) : Nat) : Int) := by
  rw [acc_yes a b k (bit_yes b k hb h), xor8 _ _ (acc_lt a b ha k) (xtN_lt a ha k)]
theorem acc_step_no (a b k : Nat) (hb : b < 256) (h : (bits .and .u8 ((b : Int) / 2 ^ k) 1 == 1) = false) : ((acc a b k : Nat) : Int) = ((acc a b (k + 1) : Nat) : Int) := by
  rw [acc_no a b k (bit_no b k hb h)]
/-- A byte that came in. -/
theorem byte_of {x : Int} (h : (Lit.int .u8 x).wf = true) : ∃ a : Nat, a < 256 ∧ x = (a : Int) := by
  have h' := bounds_u8 h
  exact ⟨x.toNat, by omega, by omega⟩
end Go.Proofs.Ytbleikbmnkjbeap.M
