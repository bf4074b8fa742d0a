/-
  Blocks as polynomials, and their products: plain mathematics. No program is named here.
-/
import Derived.Test.YtckgjghpfjinfakGreatArr
import Derived.Test.YtckgjghpfjinfakGreatXor
namespace Go.Proofs.YtckgjghpfjinfakGreat.M
open Go.RowKit

/-- Two halves of a block: the first eight bytes as a number, and the last eight. -/
def gx (p : Nat × Nat) : Nat × Nat := (p.1 / 2 ^^^ (if p.2 % 2 = 1 then 16212958658533785600 else 0), p.2 / 2 ^^^ (if p.1 % 2 = 1 then 9223372036854775808 else 0))
def ga (p q : Nat × Nat) : Nat × Nat := (p.1 ^^^ q.1, p.2 ^^^ q.2)
def g0 : Nat × Nat := (0, 0)
/-- Both are numbers of 64 bits. -/
def G64 (p : Nat × Nat) : Prop := p.1 < 18446744073709551616 ∧ p.2 < 18446744073709551616
theorem xlt64 (a b : Nat) (ha : a < 18446744073709551616) (hb : b < 18446744073709551616) : a ^^^ b < 18446744073709551616 := Nat.xor_lt_two_pow (n := 64) ha hb
theorem ga_64 {p q : Nat × Nat} (hp : G64 p) (hq : G64 q) : G64 (ga p q) := ⟨xlt64 _ _ hp.1 hq.1, xlt64 _ _ hp.2 hq.2⟩
theorem gx_64 {p : Nat × Nat} (hp : G64 p) : G64 (gx p) := by
  have h1 := hp.1
  have h2 := hp.2
  refine ⟨xlt64 _ _ (by omega) ?_, xlt64 _ _ (by omega) ?_⟩ <;> split <;> decide
theorem ga_comm (p q : Nat × Nat) : ga p q = ga q p := by simp [ga, Nat.xor_comm]
theorem ga_assoc (p q r : Nat × Nat) : ga (ga p q) r = ga p (ga q r) := by simp [ga, Nat.xor_assoc]
theorem ga_0 (p : Nat × Nat) : ga p g0 = p := by simp [ga, g0]
theorem ga_0' (p : Nat × Nat) : ga g0 p = p := by simp [ga, g0]
theorem ga_self (p : Nat × Nat) : ga p p = g0 := by simp [ga, g0]
theorem ga_four (a b c d : Nat × Nat) : ga (ga a b) (ga c d) = ga (ga a c) (ga b d) := by
  rw [ga_assoc, ga_assoc, ← ga_assoc b c d, ga_comm b c, ga_assoc c b d]
theorem xor_half (a b : Nat) : (a ^^^ b) / 2 = a / 2 ^^^ b / 2 := by
  have h := Nat.shiftRight_xor_distrib (a := a) (b := b) (i := 1)
  simpa [Nat.shiftRight_eq_div_pow] using h
theorem xor_odd (a b : Nat) : (a ^^^ b) % 2 = (a % 2 + b % 2) % 2 := by
  have h := Nat.xor_mod_two_pow (a := a) (b := b) (n := 1)
  rw [Nat.pow_one] at h
  rw [h]
  rcases Nat.mod_two_eq_zero_or_one a with h1 | h1 <;> rcases Nat.mod_two_eq_zero_or_one b with h2 | h2 <;> rw [h1, h2] <;> rfl
theorem if_xor (a b c : Nat) : (if (a ^^^ b) % 2 = 1 then c else 0) = (if a % 2 = 1 then c else 0) ^^^ (if b % 2 = 1 then c else 0) := by
  have h := xor_odd a b
  by_cases h1 : a % 2 = 1 <;> by_cases h2 : b % 2 = 1
  · rw [if_neg (by omega), if_pos h1, if_pos h2, Nat.xor_self]
  · rw [if_pos (by omega), if_pos h1, if_neg h2, Nat.xor_zero]
  · rw [if_pos (by omega), if_neg h1, if_pos h2, Nat.zero_xor]
  · rw [if_neg (by omega), if_neg h1, if_neg h2, Nat.xor_zero]
theorem xor_four (a b c d : Nat) : (a ^^^ b) ^^^ (c ^^^ d) = (a ^^^ c) ^^^ (b ^^^ d) := by
  rw [Nat.xor_assoc, Nat.xor_assoc, ← Nat.xor_assoc b c d, Nat.xor_comm b c, Nat.xor_assoc c b d]
theorem gx_ga (p q : Nat × Nat) : gx (ga p q) = ga (gx p) (gx q) := by
  obtain ⟨a, b⟩ := p
  obtain ⟨c, d⟩ := q
  show ((a ^^^ c) / 2 ^^^ (if (b ^^^ d) % 2 = 1 then 16212958658533785600 else 0), (b ^^^ d) / 2 ^^^ (if (a ^^^ c) % 2 = 1 then 9223372036854775808 else 0)) = ((a / 2 ^^^ (if b % 2 = 1 then 16212958658533785600 else 0)) ^^^ (c / 2 ^^^ (if d % 2 = 1 then 16212958658533785600 else 0)), (b / 2 ^^^ (if a % 2 = 1 then 9223372036854775808 else 0)) ^^^ (d / 2 ^^^ (if c % 2 = 1 then 9223372036854775808 else 0)))
  rw [xor_half, xor_half, if_xor, if_xor, xor_four, xor_four (b / 2)]
theorem gx_g0 : gx g0 = g0 := by decide
def gxN (c : Nat × Nat) : Nat → Nat × Nat
  | 0 => c
  | n + 1 => gx (gxN c n)
theorem gxN_64 {c : Nat × Nat} (h : G64 c) : ∀ n, G64 (gxN c n)
  | 0 => h
  | n + 1 => gx_64 (gxN_64 h n)
theorem gxN_gx (c : Nat × Nat) : ∀ n, gxN (gx c) n = gx (gxN c n)
  | 0 => rfl
  | n + 1 => by rw [gxN, gxN_gx c n]; rfl
theorem gxN_ga (p q : Nat × Nat) : ∀ n, gxN (ga p q) n = ga (gxN p n) (gxN q n)
  | 0 => rfl
  | n + 1 => by rw [gxN, gxN_ga p q n, gx_ga]; rfl
/-- The sum of the first n multiples of c. -/
def gs (f : Nat → Bool) (c : Nat × Nat) : Nat → Nat × Nat
  | 0 => g0
  | n + 1 => if f n then ga (gs f c n) (gxN c n) else gs f c n
theorem gs_yes (f : Nat → Bool) (c : Nat × Nat) (n : Nat) (h : f n = true) : gs f c (n + 1) = ga (gs f c n) (gxN c n) := by rw [gs, if_pos h]
theorem gs_no (f : Nat → Bool) (c : Nat × Nat) (n : Nat) (h : f n = false) : gs f c (n + 1) = gs f c n := by rw [gs, if_neg (by simp [h])]
theorem gs_64 (f : Nat → Bool) {c : Nat × Nat} (h : G64 c) : ∀ n, G64 (gs f c n)
  | 0 => ⟨by show (0 : Nat) < _; decide, by show (0 : Nat) < _; decide⟩
  | n + 1 => by
    unfold gs
    split
    · exact ga_64 (gs_64 f h n) (gxN_64 h n)
    · exact gs_64 f h n
theorem gs_ga (f : Nat → Bool) (p q : Nat × Nat) : ∀ n, gs f (ga p q) n = ga (gs f p n) (gs f q n)
  | 0 => (ga_0 g0).symm
  | n + 1 => by
    unfold gs
    split
    · rw [gs_ga f p q n, gxN_ga, ga_four]
    · exact gs_ga f p q n
theorem gs_gx (f : Nat → Bool) (c : Nat × Nat) : ∀ n, gs f (gx c) n = gx (gs f c n)
  | 0 => gx_g0.symm
  | n + 1 => by
    unfold gs
    split
    · rw [gs_gx f c n, gxN_gx, gx_ga]
    · exact gs_gx f c n
theorem gs_gxN (f : Nat → Bool) (c : Nat × Nat) (m : Nat) : ∀ n, gs f (gxN c n) m = gxN (gs f c m) n
  | 0 => rfl
  | n + 1 => by rw [gxN, gs_gx, gs_gxN f c m n]; rfl
theorem gs_g0 (f : Nat → Bool) : ∀ n, gs f g0 n = g0
  | 0 => rfl
  | n + 1 => by
    have e : ∀ n, gxN g0 n = g0 := fun n => by induction n with | zero => rfl | succ n ih => rw [gxN, ih, gx_g0]
    unfold gs
    split
    · rw [gs_g0 f n, e, ga_0]
    · exact gs_g0 f n
theorem gs_gs (f g : Nat → Bool) (c : Nat × Nat) (m : Nat) : ∀ n, gs f (gs g c n) m = gs g (gs f c m) n
  | 0 => gs_g0 f m
  | n + 1 => by
    rw [gs, gs]
    split
    · rw [gs_ga, gs_gs f g c m n, gs_gxN]
    · exact gs_gs f g c m n
/-- The factor of a power. -/
def fb (p : Nat × Nat) (i : Nat) : Bool := if i < 64 then p.1.testBit (63 - i) else p.2.testBit (127 - i)
def ge : Nat × Nat := (9223372036854775808, 0)
theorem gxN_ge : ∀ i, i < 128 → gxN ge i = if i < 64 then (2 ^ (63 - i), 0) else (0, 2 ^ (127 - i)) := by decide +kernel
/-- The upper bits of a number, n of 64. -/
theorem top_lo (p : Nat × Nat) : ∀ n, n ≤ 64 → (gs (fb p) ge n).2 = 0 ∧ ∀ k, (gs (fb p) ge n).1.testBit k = (decide (k < 64 ∧ 63 - k < n) && p.1.testBit k)
  | 0, _ => ⟨rfl, fun k => by simp [gs, g0]⟩
  | n + 1, h => by
    obtain ⟨h1, h2⟩ := top_lo p n (by omega)
    have e := gxN_ge n (by omega)
    rw [if_pos (by omega)] at e
    have hf : fb p n = p.1.testBit (63 - n) := by rw [fb, if_pos (by omega)]
    by_cases hb : fb p n = true
    · rw [gs_yes _ _ _ hb, e]
      refine ⟨by simp [ga, h1], fun k => ?_⟩
      simp only [ga, Nat.testBit_xor, h2 k, Nat.testBit_two_pow]
      rw [hf] at hb
      by_cases hk : 63 - n = k
      · subst hk
        have h3 : ¬ 63 - (63 - n) < n := by omega
        have h4 : 63 - (63 - n) < n + 1 := by omega
        simp [hb, h3, h4]; omega
      · by_cases hk2 : k < 64 ∧ 63 - k < n
        · simp [hk, hk2, show 63 - k < n + 1 by omega]
        · have hk3 : ¬ (k < 64 ∧ 63 - k < n + 1) := by omega
          simp [hk, hk2, hk3]
    · have hb : fb p n = false := by simpa using hb
      rw [gs_no _ _ _ hb]
      refine ⟨h1, fun k => ?_⟩
      rw [h2 k]
      rw [hf] at hb
      by_cases hk : 63 - n = k
      · subst hk
        simp [hb]
      · have e2 : (k < 64 ∧ 63 - k < n) ↔ (k < 64 ∧ 63 - k < n + 1) := by omega
        simp [e2]
theorem top_hi (p : Nat × Nat) (hp : G64 p) : ∀ n, n ≤ 64 → (gs (fb p) ge (64 + n)).1 = p.1 ∧ ∀ k, (gs (fb p) ge (64 + n)).2.testBit k = (decide (k < 64 ∧ 63 - k < n) && p.2.testBit k)
  | 0, _ => by
    obtain ⟨h1, h2⟩ := top_lo p 64 (by omega)
    refine ⟨?_, fun k => by rw [Nat.add_zero, h1]; simp⟩
    apply Nat.eq_of_testBit_eq
    intro k
    rw [Nat.add_zero, h2 k]
    by_cases hk : k < 64
    · simp [hk]; omega
    · have := Nat.testBit_lt_two_pow (x := p.1) (i := k) (Nat.lt_of_lt_of_le hp.1 (Nat.pow_le_pow_right (n := 2) (i := 64) (by omega) (by omega)))
      simp [hk, this]
  | n + 1, h => by
    obtain ⟨h1, h2⟩ := top_hi p hp n (by omega)
    have e := gxN_ge (64 + n) (by omega)
    rw [if_neg (by omega), show 127 - (64 + n) = 63 - n by omega] at e
    have hf : fb p (64 + n) = p.2.testBit (63 - n) := by rw [fb, if_neg (by omega), show 127 - (64 + n) = 63 - n by omega]
    by_cases hb : fb p (64 + n) = true
    · rw [← Nat.add_assoc, gs_yes _ _ _ hb, e]
      refine ⟨by simp [ga, h1], fun k => ?_⟩
      simp only [ga, Nat.testBit_xor, h2 k, Nat.testBit_two_pow]
      rw [hf] at hb
      by_cases hk : 63 - n = k
      · subst hk
        have h3 : ¬ 63 - (63 - n) < n := by omega
        have h4 : 63 - (63 - n) < n + 1 := by omega
        simp [hb, h3, h4]; omega
      · by_cases hk2 : k < 64 ∧ 63 - k < n
        · simp [hk, hk2, show 63 - k < n + 1 by omega]
        · have hk3 : ¬ (k < 64 ∧ 63 - k < n + 1) := by omega
          simp [hk, hk2, hk3]
    · have hb : fb p (64 + n) = false := by simpa using hb
      rw [← Nat.add_assoc, gs_no _ _ _ hb]
      refine ⟨h1, fun k => ?_⟩
      rw [h2 k]
      rw [hf] at hb
      by_cases hk : 63 - n = k
      · subst hk
        simp [hb]
      · have e2 : (k < 64 ∧ 63 - k < n) ↔ (k < 64 ∧ 63 - k < n + 1) := by omega
        simp [e2]
theorem gs_ge (p : Nat × Nat) (hp : G64 p) : gs (fb p) ge 128 = p := by
  obtain ⟨h1, h2⟩ := top_hi p hp 64 (by omega)
  refine Prod.ext h1 ?_
  apply Nat.eq_of_testBit_eq
  intro k
  rw [h2 k]
  by_cases hk : k < 64
  · simp [hk]; omega
  · have := Nat.testBit_lt_two_pow (x := p.2) (i := k) (Nat.lt_of_lt_of_le hp.2 (Nat.pow_le_pow_right (n := 2) (i := 64) (by omega) (by omega)))
    simp [hk, this]
/-- The product of two. -/
def gmul (p q : Nat × Nat) : Nat × Nat := gs (fb p) q 128
theorem gmul_64 (p : Nat × Nat) {q : Nat × Nat} (h : G64 q) : G64 (gmul p q) := gs_64 _ h _
theorem gmul_comm (p q : Nat × Nat) (hp : G64 p) (hq : G64 q) : gmul p q = gmul q p := by
  have e1 := gs_ge p hp
  have e2 := gs_ge q hq
  have h := gs_gs (fb p) (fb q) ge 128 128
  rw [e1, e2] at h
  exact h
theorem gmul_ge (p : Nat × Nat) (hp : G64 p) : gmul ge p = p := by rw [gmul_comm _ _ ⟨by decide, by decide⟩ hp]; exact gs_ge p hp
theorem gmul_ga (p q r : Nat × Nat) : gmul p (ga q r) = ga (gmul p q) (gmul p r) := gs_ga _ _ _ _
theorem gmul_ga' (p q r : Nat × Nat) (hp : G64 p) (hq : G64 q) (hr : G64 r) : gmul (ga p q) r = ga (gmul p r) (gmul q r) := by
  rw [gmul_comm _ _ (ga_64 hp hq) hr, gmul_ga, gmul_comm _ _ hr hp, gmul_comm _ _ hr hq]
/-- k bytes from o on, as one number. -/
def hfN (l : List Nat) (o : Nat) : Nat → Nat
  | 0 => 0
  | k + 1 => hfN l o k * 256 + gt l (o + k)
theorem hfN_lt (l : List Nat) (y : Byt l) (o : Nat) : ∀ k, hfN l o k < 256 ^ k
  | 0 => by simp [hfN]
  | k + 1 => by
    have h1 := hfN_lt l y o k
    have h2 := gt_byt l y (o + k)
    rw [hfN, Nat.pow_succ]
    omega
theorem hf_lt (l : List Nat) (y : Byt l) (o : Nat) : hfN l o 8 < 18446744073709551616 := hfN_lt l y o 8
theorem hf_small (l : List Nat) (y : Byt l) (o n : Nat) (hn : n < 8) : hfN l o n < 72057594037927936 := by
  have h := hfN_lt l y o n
  have h2 : (256 : Nat) ^ n ≤ 256 ^ 7 := Nat.pow_le_pow_right (by omega) (by omega)
  have h3 : (256 : Nat) ^ 7 = 72057594037927936 := by decide
  omega
def elt (l : List Nat) : Nat × Nat := (hfN l 0 8, hfN l 8 8)
theorem elt_64 (l : List Nat) (y : Byt l) : G64 (elt l) := ⟨hf_lt l y 0, hf_lt l y 8⟩
theorem bit_mul (n b k : Nat) (hb : b < 256) : (n * 256 + b).testBit k = if k < 8 then b.testBit k else n.testBit (k - 8) := by
  have h := Nat.testBit_two_pow_mul_add (a := n) (b := b) (i := 8) hb k
  rw [Nat.mul_comm n 256]
  exact h
theorem hfN_bit (l : List Nat) (y : Byt l) (o : Nat) : ∀ k i, i < 8 * k → (hfN l o k).testBit (8 * k - 1 - i) = (gt l (o + i / 8)).testBit (7 - i % 8)
  | 0, i, h => by omega
  | k + 1, i, h => by
    rw [hfN, bit_mul _ _ _ (gt_byt l y (o + k))]
    by_cases hi : i < 8 * k
    · rw [if_neg (by omega), ← hfN_bit l y o k i hi, show 8 * (k + 1) - 1 - i - 8 = 8 * k - 1 - i by omega]
    · rw [if_pos (by omega), show i / 8 = k by omega, show 8 * (k + 1) - 1 - i = 7 - i % 8 by omega]
theorem fb_elt (l : List Nat) (y : Byt l) (i : Nat) (hi : i < 128) : fb (elt l) i = (gt l (i / 8)).testBit (7 - i % 8) := by
  unfold fb elt
  by_cases h : i < 64
  · rw [if_pos h]
    have q := hfN_bit l y 0 8 i (by omega)
    rw [Nat.zero_add] at q
    exact q
  · rw [if_neg h]
    have q := hfN_bit l y 8 8 (i - 64) (by omega)
    show (hfN l 8 8).testBit (127 - i) = _
    rw [show 8 * 8 - 1 - (i - 64) = 127 - i by omega, show 8 + (i - 64) / 8 = i / 8 by omega, show (i - 64) % 8 = i % 8 by omega] at q
    exact q
theorem tb_eq (a k : Nat) : (a.testBit k = true) ↔ a / 2 ^ k % 2 = 1 := by
  rw [Nat.testBit_eq_decide_div_mod_eq, decide_eq_true_iff]
/-- Two numbers as sixteen bytes. -/
def eb (p : Nat × Nat) : List Nat := (List.range 16).map fun i => if i < 8 then p.1 / 256 ^ (7 - i) % 256 else p.2 / 256 ^ (15 - i) % 256
theorem eb_len (p : Nat × Nat) : (eb p).length = 16 := by simp [eb]
theorem eb_gt (p : Nat × Nat) (i : Nat) (h : i < 16) : gt (eb p) i = if i < 8 then p.1 / 256 ^ (7 - i) % 256 else p.2 / 256 ^ (15 - i) % 256 := by
  rw [gt_eq _ _ (by rw [eb_len]; exact h)]
  simp [eb]
theorem eb_byt (p : Nat × Nat) : Byt (eb p) := by
  intro x hx
  simp only [eb, List.mem_map] at hx
  obtain ⟨i, _, rfl⟩ := hx
  split <;> omega
theorem hfN_div (l : List Nat) (y : Byt l) (o : Nat) : ∀ k j, j < k → hfN l o k / 256 ^ (k - 1 - j) % 256 = gt l (o + j)
  | 0, j, h => by omega
  | k + 1, j, h => by
    have h2 := gt_byt l y (o + k)
    by_cases hj : j = k
    · subst hj
      rw [hfN, show j + 1 - 1 - j = 0 by omega, Nat.pow_zero, Nat.div_one]
      omega
    · have q := hfN_div l y o k j (by omega)
      rw [hfN, show k + 1 - 1 - j = (k - 1 - j) + 1 by omega, Nat.pow_succ, Nat.mul_comm (256 ^ _) 256, ← Nat.div_div_eq_div_mul, show (hfN l o k * 256 + gt l (o + k)) / 256 = hfN l o k by omega]
      exact q
theorem gt_ext {a b : List Nat} (hl : a.length = b.length) (h : ∀ i, i < a.length → gt a i = gt b i) : a = b := by
  apply List.ext_getElem hl
  intro i h1 h2
  have q := h i h1
  rw [gt_eq a i h1, gt_eq b i h2] at q
  exact q
theorem eb_elt (l : List Nat) (y : Byt l) (hl : l.length = 16) : eb (elt l) = l := by
  refine gt_ext (by rw [eb_len, hl]) fun i hi => ?_
  rw [eb_len] at hi
  rw [eb_gt _ _ hi]
  by_cases h : i < 8
  · rw [if_pos h]
    have q := hfN_div l y 0 8 i h
    rw [Nat.zero_add] at q
    exact q
  · rw [if_neg h]
    have q := hfN_div l y 8 8 (i - 8) (by omega)
    rw [show 8 - 1 - (i - 8) = 15 - i by omega, show 8 + (i - 8) = i by omega] at q
    exact q
theorem num_hi (n k : Nat) : n / 256 ^ k = n / 256 ^ (k + 1) * 256 + n / 256 ^ k % 256 := by
  rw [Nat.pow_succ, ← Nat.div_div_eq_div_mul]
  omega
theorem hfN_num (l : List Nat) (o n m : Nat) (h : ∀ i, i < m → gt l (o + i) = n / 256 ^ (m - 1 - i) % 256) : ∀ k, k ≤ m → hfN l o k = n / 256 ^ (m - k) % 256 ^ k
  | 0, _ => by simp [hfN, Nat.mod_one]
  | k + 1, hk => by
    rw [hfN, hfN_num l o n m h k (by omega), h k (by omega), show m - 1 - k = m - (k + 1) by omega, show m - k = m - (k + 1) + 1 by omega, Nat.pow_succ 256 (m - (k + 1)), ← Nat.div_div_eq_div_mul, Nat.pow_succ]
    generalize n / 256 ^ (m - (k + 1)) = x
    rw [Nat.mul_comm (256 ^ k) 256, Nat.mod_mul]
    omega
theorem elt_eb (p : Nat × Nat) (hp : G64 p) : elt (eb p) = p := by
  refine Prod.ext ?_ ?_
  · have h := hfN_num (eb p) 0 p.1 8 (fun i hi => by rw [Nat.zero_add, eb_gt _ _ (by omega), if_pos hi]) 8 (by omega)
    have h1 := hp.1
    show hfN (eb p) 0 8 = p.1
    rw [h, Nat.sub_self, Nat.pow_zero, Nat.div_one, Nat.mod_eq_of_lt h1]
  · have h := hfN_num (eb p) 8 p.2 8 (fun i hi => by rw [eb_gt _ _ (by omega), if_neg (by omega), show 15 - (8 + i) = 8 - 1 - i by omega]) 8 (by omega)
    have h1 := hp.2
    show hfN (eb p) 8 8 = p.2
    rw [h, Nat.sub_self, Nat.pow_zero, Nat.div_one, Nat.mod_eq_of_lt h1]
theorem xor_join (a b c d : Nat) (hc : c < 256) (hd : d < 256) : (a * 256 + c) ^^^ (b * 256 + d) = (a ^^^ b) * 256 + (c ^^^ d) := by
  apply Nat.eq_of_testBit_eq
  intro k
  rw [Nat.testBit_xor, bit_mul _ _ _ hc, bit_mul _ _ _ hd, bit_mul _ _ _ (Nat.xor_lt_two_pow (n := 8) hc hd)]
  split <;> rw [Nat.testBit_xor]
theorem hfN_xl (a b : List Nat) (ya : Byt a) (yb : Byt b) (hl : a.length = b.length) (o : Nat) : ∀ k, o + k ≤ a.length → hfN (xl a b) o k = hfN a o k ^^^ hfN b o k
  | 0, _ => by simp [hfN]
  | k + 1, h => by
    have e : gt (xl a b) (o + k) = gt a (o + k) ^^^ gt b (o + k) := by
      rw [gt_eq _ _ (by rw [xl_len]; omega), xl_at a b _ (by rw [xl_len]; omega) (by omega) (by omega), gt_eq a _ (by omega), gt_eq b _ (by omega)]
    rw [hfN, hfN, hfN, hfN_xl a b ya yb hl o k (by omega), e, xor_join _ _ _ _ (gt_byt a ya _) (gt_byt b yb _)]
theorem elt_xl (a b : List Nat) (ya : Byt a) (yb : Byt b) (ha : a.length = 16) (hb : b.length = 16) : elt (xl a b) = ga (elt a) (elt b) :=
  Prod.ext (hfN_xl a b ya yb (by omega) 0 8 (by omega)) (hfN_xl a b ya yb (by omega) 8 8 (by omega))
theorem xlb_byt (a b : List Nat) (ya : Byt a) (yb : Byt b) (hl : a.length = b.length) : Byt (xl a b) := by
  intro x hx
  obtain ⟨i, hi, rfl⟩ := List.getElem_of_mem hx
  rw [xl_len] at hi
  rw [xl_at a b i (by rw [xl_len]; exact hi) hi (by omega)]
  exact xor_lt _ _ (ya.at i hi) (yb.at i (by omega))
theorem eb_ga (p q : Nat × Nat) (hp : G64 p) (hq : G64 q) : eb (ga p q) = xl (eb p) (eb q) := by
  have h := elt_xl (eb p) (eb q) (eb_byt p) (eb_byt q) (eb_len p) (eb_len q)
  rw [elt_eb p hp, elt_eb q hq] at h
  rw [← h, eb_elt _ (xlb_byt _ _ (eb_byt p) (eb_byt q) (by rw [eb_len, eb_len])) (by rw [xl_len, eb_len])]
/-- The product of two blocks. -/
def gtm (a b : List Nat) : List Nat := eb (gmul (elt a) (elt b))
theorem gtm_len (a b : List Nat) : (gtm a b).length = 16 := eb_len _
theorem gtm_byt (a b : List Nat) : Byt (gtm a b) := eb_byt _
theorem gtm_comm (a b : List Nat) (ya : Byt a) (yb : Byt b) : gtm a b = gtm b a := by rw [gtm, gmul_comm _ _ (elt_64 a ya) (elt_64 b yb)]; rfl
/-- The last k bytes of both halves. -/
def rk (F : Nat → Nat) (k : Nat) : List Nat := (List.range 16).map fun i => if (8 - k ≤ i ∧ i < 8) ∨ 16 - k ≤ i then F i else 0
theorem rk_len (F : Nat → Nat) (k : Nat) : (rk F k).length = 16 := by simp [rk]
theorem rk_zero (F : Nat → Nat) : rk F 0 = zs 16 := rfl
theorem rk_set (F : Nat → Nat) (k t s : Nat) (hk : k < 8) (ht : t + k = 7) (hs : s = 8 + t) : ((rk F k).set t (F t)).set s (F s) = rk F (k + 1) := by
  subst hs
  match k, hk with
  | 0, _ => obtain rfl : t = 7 := by omega
            rfl
  | 1, _ => obtain rfl : t = 6 := by omega
            rfl
  | 2, _ => obtain rfl : t = 5 := by omega
            rfl
  | 3, _ => obtain rfl : t = 4 := by omega
            rfl
  | 4, _ => obtain rfl : t = 3 := by omega
            rfl
  | 5, _ => obtain rfl : t = 2 := by omega
            rfl
  | 6, _ => obtain rfl : t = 1 := by omega
            rfl
  | 7, _ => obtain rfl : t = 0 := by omega
            rfl
theorem rk_end (p : Nat × Nat) : rk (gt (eb p)) 8 = eb p := by
  refine gt_ext (by rw [rk_len, eb_len]) fun i hi => ?_
  rw [rk_len] at hi
  rw [gt_eq (rk _ _) i (by rw [rk_len]; exact hi)]
  simp only [rk, List.getElem_map, List.getElem_range]
  rw [if_pos (by omega)]
theorem eb_lo (p : Nat × Nat) (k t : Nat) (hk : k < 8) (ht : t + k = 7) : gt (eb p) t = p.1 / 256 ^ k % 256 := by
  rw [eb_gt _ _ (by omega), if_pos (by omega), show 7 - t = k by omega]
theorem eb_hi (p : Nat × Nat) (k t s : Nat) (hk : k < 8) (ht : t + k = 7) (hs : s = 8 + t) : gt (eb p) s = p.2 / 256 ^ k % 256 := by
  rw [eb_gt _ _ (by omega), if_neg (by omega), show 15 - s = k by omega]
theorem i64_eq {a b : Int} (h : a = b) : Value.int .i64 a = .int .i64 b := by rw [h]
theorem pow_step (a k : Nat) : a / 256 ^ k / 256 = a / 256 ^ (k + 1) := by rw [Nat.div_div_eq_div_mul, Nat.pow_succ]
end Go.Proofs.YtckgjghpfjinfakGreat.M
