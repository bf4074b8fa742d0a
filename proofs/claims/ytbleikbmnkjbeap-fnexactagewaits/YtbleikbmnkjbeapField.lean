/-
  Bytes are a field: plain mathematics over the products of Bytes.lean. No program is named here.
-/
import Derived.Test.YtbleikbmnkjbeapBytes
namespace Go.Proofs.Ytbleikbmnkjbeap.M

theorem bit_xor (b c k : Nat) : (b ^^^ c) / 2 ^ k % 2 = (b / 2 ^ k % 2 + c / 2 ^ k % 2) % 2 := by
  have h : ∀ n : Nat, n / 2 ^ k % 2 = (n.testBit k).toNat := fun n => by rw [Nat.testBit_eq_decide_div_mod_eq]; by_cases hh : n / 2 ^ k % 2 = 1 <;> simp [hh]; omega
  rw [h, h, h, Nat.testBit_xor]
  cases b.testBit k <;> cases c.testBit k <;> rfl

theorem acc_xor (a b c : Nat) : ∀ k, acc a (b ^^^ c) k = acc a b k ^^^ acc a c k
  | 0 => by simp [acc]
  | k + 1 => by
    have e := bit_xor b c k
    have ih := acc_xor a b c k
    simp only [acc]
    rw [e, ih]
    rcases Nat.mod_two_eq_zero_or_one (b / 2 ^ k) with h1 | h1 <;> rcases Nat.mod_two_eq_zero_or_one (c / 2 ^ k) with h2 | h2 <;> simp only [h1, h2]
    · rfl
    · simp [Nat.xor_assoc]
    · simp only [reduceIte, Nat.zero_ne_one]
      rw [Nat.xor_assoc, Nat.xor_comm (acc a c k), ← Nat.xor_assoc]
    · simp only [reduceIte, Nat.reduceAdd, Nat.reduceMod, Nat.zero_ne_one]
      rw [Nat.xor_assoc, Nat.xor_comm (xtN a k), Nat.xor_assoc (acc a c k), Nat.xor_self, Nat.xor_zero]
theorem ft_xor (a b c : Nat) : ft a (b ^^^ c) = ft a b ^^^ ft a c := acc_xor a b c 8

set_option maxRecDepth 100000 in
theorem xt_xor_fin : ∀ a b : Fin 256, xt (a.val ^^^ b.val) = xt a.val ^^^ xt b.val := by decide +kernel
theorem xt_xor (a b : Nat) (ha : a < 256) (hb : b < 256) : xt (a ^^^ b) = xt a ^^^ xt b := xt_xor_fin ⟨a, ha⟩ ⟨b, hb⟩
theorem xtN_xor (a b : Nat) (ha : a < 256) (hb : b < 256) : ∀ k, xtN (a ^^^ b) k = xtN a k ^^^ xtN b k
  | 0 => rfl
  | k + 1 => by simp only [xtN]; rw [xtN_xor a b ha hb k, xt_xor _ _ (xtN_lt a ha k) (xtN_lt b hb k)]
theorem acc_xor_left (a b c : Nat) (ha : a < 256) (hb : b < 256) : ∀ k, acc (a ^^^ b) c k = acc a c k ^^^ acc b c k
  | 0 => by simp [acc]
  | k + 1 => by
    have ih := acc_xor_left a b c ha hb k
    simp only [acc]
    rw [ih, xtN_xor a b ha hb k]
    split
    · rw [Nat.xor_assoc, Nat.xor_assoc, ← Nat.xor_assoc (acc b c k), Nat.xor_comm (acc b c k), Nat.xor_assoc]
    · rfl
theorem ft_xor_left (a b c : Nat) (ha : a < 256) (hb : b < 256) : ft (a ^^^ b) c = ft a c ^^^ ft b c := acc_xor_left a b c ha hb 8

/-- Two sums' functions that agree at the powers agree. -/
theorem low_bits (x k : Nat) : x % 2 ^ (k + 1) = (x % 2 ^ k) ^^^ (if x / 2 ^ k % 2 = 1 then 2 ^ k else 0) := by
  apply Nat.eq_of_testBit_eq
  intro i
  rw [Nat.testBit_xor, Nat.testBit_mod_two_pow, Nat.testBit_mod_two_pow]
  have hb : x.testBit k = decide (x / 2 ^ k % 2 = 1) := Nat.testBit_eq_decide_div_mod_eq
  by_cases h : x / 2 ^ k % 2 = 1
  · rw [if_pos h, Nat.testBit_two_pow]
    by_cases e : k = i
    · subst e; simp [hb, h]
    · by_cases l : i < k
      · simp [l, e, Nat.lt_succ_of_lt l]
      · have l' : ¬ i < k + 1 := by omega
        simp [l, l', e]
  · rw [if_neg h, Nat.zero_testBit]
    by_cases e : k = i
    · subst e; simp [hb, h]
    · by_cases l : i < k
      · simp [l, Nat.lt_succ_of_lt l]
      · have l' : ¬ i < k + 1 := by omega
        simp [l, l']
theorem lin_eq (f g : Nat → Nat) (hf : ∀ x y, x < 256 → y < 256 → f (x ^^^ y) = f x ^^^ f y) (hg : ∀ x y, x < 256 → y < 256 → g (x ^^^ y) = g x ^^^ g y)
    (h : ∀ i, i < 8 → f (2 ^ i) = g (2 ^ i)) (x : Nat) (hx : x < 256) : f x = g x := by
  have f0 : f 0 = 0 := by have := hf 0 0 (by omega) (by omega); rw [Nat.xor_self, Nat.xor_self] at this; exact this
  have g0 : g 0 = 0 := by have := hg 0 0 (by omega) (by omega); rw [Nat.xor_self, Nat.xor_self] at this; exact this
  have key : ∀ k, k ≤ 8 → f (x % 2 ^ k) = g (x % 2 ^ k) := by
    intro k
    induction k with
    | zero => intro _; rw [Nat.pow_zero, Nat.mod_one, f0, g0]
    | succ k ih =>
      intro hk
      have hp : 2 ^ k < 256 := Nat.lt_of_lt_of_le (Nat.pow_lt_pow_right (by omega) (by omega : k < 8)) (by omega)
      have hm : x % 2 ^ k < 256 := Nat.lt_of_le_of_lt (Nat.mod_le _ _) hx
      rw [low_bits]
      split
      · rw [hf _ _ hm hp, hg _ _ hm hp, ih (by omega), h k (by omega)]
      · rw [hf _ _ hm (by omega), hg _ _ hm (by omega), ih (by omega), f0, g0]
  have := key 8 (by omega)
  rwa [show (2 : Nat) ^ 8 = 256 from rfl, Nat.mod_eq_of_lt hx] at this

theorem pow_lt (i : Nat) (h : i < 8) : 2 ^ i < 256 := Nat.lt_of_lt_of_le (Nat.pow_lt_pow_right (by omega) h) (by omega)
theorem comm_fin : ∀ i j : Fin 8, ft (2 ^ i.val) (2 ^ j.val) = ft (2 ^ j.val) (2 ^ i.val) := by decide +kernel
theorem ft_comm (a b : Nat) (ha : a < 256) (hb : b < 256) : ft a b = ft b a :=
  lin_eq (fun b => ft a b) (fun b => ft b a) (fun x y _ _ => ft_xor a x y) (fun x y hx hy => ft_xor_left x y a hx hy)
    (fun i hi => lin_eq (fun a => ft a (2 ^ i)) (fun a => ft (2 ^ i) a) (fun x y hx hy => ft_xor_left x y _ hx hy) (fun x y _ _ => ft_xor _ x y)
      (fun j hj => comm_fin ⟨j, hj⟩ ⟨i, hi⟩) a ha) b hb
set_option maxRecDepth 100000 in
theorem assoc_fin : ∀ i j k : Fin 8, ft (ft (2 ^ i.val) (2 ^ j.val)) (2 ^ k.val) = ft (2 ^ i.val) (ft (2 ^ j.val) (2 ^ k.val)) := by decide +kernel
theorem ft_assoc (a b c : Nat) (ha : a < 256) (hb : b < 256) (hc : c < 256) : ft (ft a b) c = ft a (ft b c) :=
  lin_eq (fun a => ft (ft a b) c) (fun a => ft a (ft b c))
    (fun x y hx hy => by show ft (ft (x ^^^ y) b) c = _; rw [ft_xor_left x y b hx hy, ft_xor_left _ _ c (ft_lt x b hx) (ft_lt y b hy)]) (fun x y hx hy => ft_xor_left x y _ hx hy)
    (fun i hi => lin_eq (fun b => ft (ft (2 ^ i) b) c) (fun b => ft (2 ^ i) (ft b c))
      (fun x y _ _ => by show ft (ft (2 ^ i) (x ^^^ y)) c = _; rw [ft_xor, ft_xor_left _ _ c (ft_lt _ _ (pow_lt i hi)) (ft_lt _ _ (pow_lt i hi))]) (fun x y hx hy => by show ft (2 ^ i) (ft (x ^^^ y) c) = _; rw [ft_xor_left x y c hx hy, ft_xor])
      (fun j hj => lin_eq (fun c => ft (ft (2 ^ i) (2 ^ j)) c) (fun c => ft (2 ^ i) (ft (2 ^ j) c)) (fun x y _ _ => ft_xor _ x y) (fun x y _ _ => by show ft (2 ^ i) (ft (2 ^ j) (x ^^^ y)) = _; rw [ft_xor, ft_xor])
        (fun k hk => assoc_fin ⟨i, hi⟩ ⟨j, hj⟩ ⟨k, hk⟩) c hc) b hb) a ha
theorem ft_one_fin : ∀ a : Fin 256, ft a.val 1 = a.val := by decide +kernel
theorem ft_one (a : Nat) (ha : a < 256) : ft a 1 = a := ft_one_fin ⟨a, ha⟩

/-- What impl.FieldInverse reckons: a to the power of 254. -/
def invTo (a : Nat) : Nat → Nat × Nat
  | 0 => (1, ft a a)
  | k + 1 => (ft (invTo a k).2 (invTo a k).1, ft (invTo a k).2 (invTo a k).2)
def finv (a : Nat) : Nat := (invTo a 7).1
theorem invTo_lt (a : Nat) (ha : a < 256) : ∀ k, (invTo a k).1 < 256 ∧ (invTo a k).2 < 256
  | 0 => ⟨by simp [invTo], ft_lt a a ha⟩
  | k + 1 => ⟨ft_lt _ _ (invTo_lt a ha k).2, ft_lt _ _ (invTo_lt a ha k).2⟩
theorem finv_lt (a : Nat) (ha : a < 256) : finv a < 256 := (invTo_lt a ha 7).1
set_option maxRecDepth 100000 in
theorem finv_fin : ∀ a : Fin 256, (a.val ≠ 0 → ft a.val (finv a.val) = 1) ∧ (a.val = 0 → finv a.val = 0) := by decide +kernel
theorem finv_ok (a : Nat) (ha : a < 256) (h : a ≠ 0) : ft a (finv a) = 1 := (finv_fin ⟨a, ha⟩).1 h
theorem finv_zero : finv 0 = 0 := (finv_fin 0).2 rfl
theorem finv_pos (a : Nat) (ha : a < 256) (h : a ≠ 0) : 0 < finv a := by
  have e := finv_ok a ha h
  rcases Nat.eq_zero_or_pos (finv a) with z | z
  · rw [z] at e; have : ft a 0 = 0 := by have := ft_xor a 0 0; simpa using this
    omega
  · exact z
/-- There is one inverse alone. -/
theorem finv_one (a b : Nat) (ha : a < 256) (hb : b < 256) (h : a ≠ 0) (e : ft a b = 1) : b = finv a := by
  have hi := finv_lt a ha
  have e1 : ft (ft b a) (finv a) = ft b (ft a (finv a)) := ft_assoc b a (finv a) hb ha hi
  rw [finv_ok a ha h, ft_one b hb, ft_comm b a hb ha, e, ft_comm 1 _ (by omega) hi, ft_one _ hi] at e1
  exact e1.symm
/-- A byte whose bits are turned by t places. -/
def rot (x t : Nat) : Nat := (x * 2 ^ ((8 - t) % 8) % 256) ||| (x / 2 ^ (8 - (8 - t) % 8))
theorem or8 (a b : Nat) (ha : a < 256) (hb : b < 256) : bits .or .u8 (a : Int) (b : Int) = ((a ||| b : Nat) : Int) := u8_or_nat a b ha hb
theorem rot_lt (x t : Nat) (hx : x < 256) : rot x t < 256 :=
  Nat.or_lt_two_pow (n := 8) (by omega) (Nat.lt_of_le_of_lt (Nat.div_le_self _ _) hx)
theorem rot_at (x s d : Nat) (hx : x < 256) : bits .or .u8 ((x : Int) * (s : Nat) % 256) ((x : Int) / (d : Nat)) = (((x * s % 256) ||| (x / d) : Nat) : Int) := by
  have e1 : ((x : Int) * (s : Nat) % 256) = ((x * s % 256 : Nat) : Int) := by rw [Int.natCast_emod, Int.natCast_mul]; rfl
  have e2 : ((x : Int) / (d : Nat)) = ((x / d : Nat) : Int) := (Int.natCast_ediv x d).symm
  rw [e1, e2]
  exact or8 _ _ (by omega) (Nat.lt_of_le_of_lt (Nat.div_le_self _ _) hx)
theorem rot_4 (x : Nat) (hx : x < 256) : bits .or .u8 ((x : Int) * 16 % 256) ((x : Int) / 16) = ((rot x 4 : Nat) : Int) := rot_at x 16 16 hx
theorem rot_5 (x : Nat) (hx : x < 256) : bits .or .u8 ((x : Int) * 8 % 256) ((x : Int) / 32) = ((rot x 5 : Nat) : Int) := rot_at x 8 32 hx
theorem rot_6 (x : Nat) (hx : x < 256) : bits .or .u8 ((x : Int) * 4 % 256) ((x : Int) / 64) = ((rot x 6 : Nat) : Int) := rot_at x 4 64 hx
theorem rot_7 (x : Nat) (hx : x < 256) : bits .or .u8 ((x : Int) * 2 % 256) ((x : Int) / 128) = ((rot x 7 : Nat) : Int) := rot_at x 2 128 hx

/-- The box. -/
def sbx (a : Nat) : Nat := ((((99 ^^^ rot (finv a) 0) ^^^ rot (finv a) 4) ^^^ rot (finv a) 5) ^^^ rot (finv a) 6) ^^^ rot (finv a) 7
theorem sbx_lt (a : Nat) (ha : a < 256) : sbx a < 256 := by
  have h := finv_lt a ha
  unfold sbx
  repeat (first | exact rot_lt _ _ h | omega | refine Nat.xor_lt_two_pow (n := 8) ?_ ?_)
theorem sbx_sum (x : Nat) (hx : x < 256) : bits .xor .u8 (bits .xor .u8 (bits .xor .u8 (bits .xor .u8 (bits .xor .u8 99 (rot x 0 : Nat)) (rot x 4 : Nat)) (rot x 5 : Nat)) (rot x 6 : Nat)) (rot x 7 : Nat) = (((((99 ^^^ rot x 0) ^^^ rot x 4) ^^^ rot x 5) ^^^ rot x 6) ^^^ rot x 7 : Nat) := by
  have l := fun t => rot_lt x t hx
  have p : ∀ a b : Nat, a < 256 → b < 256 → a ^^^ b < 256 := fun a b ha hb => Nat.xor_lt_two_pow (n := 8) ha hb
  have e := xor8 99 (rot x 0) (by omega) (l 0)
  rw [show ((99 : Nat) : Int) = (99 : Int) from rfl] at e
  rw [e, xor8 _ _ (p _ _ (by omega) (l 0)) (l 4), xor8 _ _ (p _ _ (p _ _ (by omega) (l 0)) (l 4)) (l 5), xor8 _ _ (p _ _ (p _ _ (p _ _ (by omega) (l 0)) (l 4)) (l 5)) (l 6), xor8 _ _ (p _ _ (p _ _ (p _ _ (p _ _ (by omega) (l 0)) (l 4)) (l 5)) (l 6)) (l 7)]
def boxed : ByteArray := ⟨#[
  99, 124, 119, 123, 242, 107, 111, 197, 48, 1, 103, 43, 254, 215, 171, 118, 202, 130, 201, 125, 250, 89, 71, 240, 173, 212, 162, 175, 156, 164, 114, 192,
  183, 253, 147, 38, 54, 63, 247, 204, 52, 165, 229, 241, 113, 216, 49, 21, 4, 199, 35, 195, 24, 150, 5, 154, 7, 18, 128, 226, 235, 39, 178, 117,
  9, 131, 44, 26, 27, 110, 90, 160, 82, 59, 214, 179, 41, 227, 47, 132, 83, 209, 0, 237, 32, 252, 177, 91, 106, 203, 190, 57, 74, 76, 88, 207,
  208, 239, 170, 251, 67, 77, 51, 133, 69, 249, 2, 127, 80, 60, 159, 168, 81, 163, 64, 143, 146, 157, 56, 245, 188, 182, 218, 33, 16, 255, 243, 210,
  205, 12, 19, 236, 95, 151, 68, 23, 196, 167, 126, 61, 100, 93, 25, 115, 96, 129, 79, 220, 34, 42, 144, 136, 70, 238, 184, 20, 222, 94, 11, 219,
  224, 50, 58, 10, 73, 6, 36, 92, 194, 211, 172, 98, 145, 149, 228, 121, 231, 200, 55, 109, 141, 213, 78, 169, 108, 86, 244, 234, 101, 122, 174, 8,
  186, 120, 37, 46, 28, 166, 180, 198, 232, 221, 116, 31, 75, 189, 139, 138, 112, 62, 181, 102, 72, 3, 246, 14, 97, 53, 87, 185, 134, 193, 29, 158,
  225, 248, 152, 17, 105, 217, 142, 148, 155, 30, 135, 233, 206, 85, 40, 223, 140, 161, 137, 13, 191, 230, 66, 104, 65, 153, 45, 15, 176, 84, 187, 22]⟩
set_option maxRecDepth 100000 in
theorem box_fin : ∀ a : Fin 256, (boxed[a.val]'(by have h : boxed.size = 256 := by decide +kernel
                                                   omega)).toNat = sbx a.val := by decide +kernel
end Go.Proofs.Ytbleikbmnkjbeap.M
