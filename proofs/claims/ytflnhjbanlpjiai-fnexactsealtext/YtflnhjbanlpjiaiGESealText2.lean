/-
  Bytes are a field: plain mathematics over the products of Bytes.lean. No program is named here.
  The xor of two lists of bytes: plain mathematics. No program is named here.
  The cipher's steps over lists of bytes: plain mathematics. No program is named here.
  The bytes of the words of a key as a function of their place: plain mathematics. No program is named here.
  A block by a key, over lists of bytes: plain mathematics. No program is named here.
  An element of an array of bytes that is a value.
  The box: what the model's table answers.
  A block by a key: what the model's l2Double and l2Encrypt answer.
  Blocks as polynomials, and their products: plain mathematics. No program is named here.
  The hash of blocks: plain mathematics. No program is named here.
  What is hidden, hashed, sealed: plain mathematics. No program is named here.
  What is hidden: the model's l3Stream.
  Products of blocks: the model's l3Half, l3Bytes, l3Times.
-/
import Derived.Test.YtflnhjbanlpjiaiGESealText1
import Derived.Laws.BitsAllLaws
import Derived.StillTailTactics
import Derived.Deep.CutRange
import Derived.Deep.RegionHeld3
import Derived.Deep.AppendLies

namespace Go.Proofs.Ytflnhjbanlpjiai.M

theorem bit_xor (b c k : Nat) : (b ^^^ c) / 2 ^ k % 2 = (b / 2 ^ k % 2 + c / 2 ^ k % 2) % 2 := by
  have h : ∀ n : Nat, n / 2 ^ k % 2 = (n.testBit k).toNat := fun n => by rw [Nat.testBit_eq_decide_div_mod_eq]; by_cases hh : n / 2 ^ k % 2 = 1 <;> simp [hh]; omega
  rw [h, h, h, Nat.testBit_xor]
  cases b.testBit k <;> cases c.testBit k <;> rfl

theorem acc_xor (a b c : Nat) : ∀ k, acc a (b ^^^ c) k = acc a b k ^^^ acc a c k
  | 0 => by simp [acc]
  | k + 1 => by
    have e := bit_xor b c k
    have ih := acc_xor a b c k
    simp only [acc]
    rw [e, ih]
    rcases Nat.mod_two_eq_zero_or_one (b / 2 ^ k) with h1 | h1 <;> rcases Nat.mod_two_eq_zero_or_one (c / 2 ^ k) with h2 | h2 <;> simp only [h1, h2]
    · rfl
    · simp [Nat.xor_assoc]
    · simp only [reduceIte, Nat.zero_ne_one]
      rw [Nat.xor_assoc, Nat.xor_comm (acc a c k), ← Nat.xor_assoc]
    · simp only [reduceIte, Nat.reduceAdd, Nat.reduceMod, Nat.zero_ne_one]
      rw [Nat.xor_assoc, Nat.xor_comm (xtN a k), Nat.xor_assoc (acc a c k), Nat.xor_self, Nat.xor_zero]
theorem ft_xor (a b c : Nat) : ft a (b ^^^ c) = ft a b ^^^ ft a c := acc_xor a b c 8

set_option maxRecDepth 100000 in
theorem xt_xor_fin : ∀ a b : Fin 256, xt (a.val ^^^ b.val) = xt a.val ^^^ xt b.val := by decide +kernel
theorem xt_xor (a b : Nat) (ha : a < 256) (hb : b < 256) : xt (a ^^^ b) = xt a ^^^ xt b := xt_xor_fin ⟨a, ha⟩ ⟨b, hb⟩
theorem xtN_xor (a b : Nat) (ha : a < 256) (hb : b < 256) : ∀ k, xtN (a ^^^ b) k = xtN a k ^^^ xtN b k
  | 0 => rfl
  | k + 1 => by simp only [xtN]; rw [xtN_xor a b ha hb k, xt_xor _ _ (xtN_lt a ha k) (xtN_lt b hb k)]
theorem acc_xor_left (a b c : Nat) (ha : a < 256) (hb : b < 256) : ∀ k, acc (a ^^^ b) c k = acc a c k ^^^ acc b c k
  | 0 => by simp [acc]
  | k + 1 => by
    have ih := acc_xor_left a b c ha hb k
    simp only [acc]
    rw [ih, xtN_xor a b ha hb k]
    split
    · rw [Nat.xor_assoc, Nat.xor_assoc, ← Nat.xor_assoc (acc b c k), Nat.xor_comm (acc b c k), Nat.xor_assoc]
    · rfl
theorem ft_xor_left (a b c : Nat) (ha : a < 256) (hb : b < 256) : ft (a ^^^ b) c = ft a c ^^^ ft b c := acc_xor_left a b c ha hb 8

/-- Two sums' functions that agree at the powers agree. -/
theorem low_bits (x k : Nat) : x % 2 ^ (k + 1) = (x % 2 ^ k) ^^^ (if x / 2 ^ k % 2 = 1 then 2 ^ k else 0) := by
  apply Nat.eq_of_testBit_eq
  intro i
  rw [Nat.testBit_xor, Nat.testBit_mod_two_pow, Nat.testBit_mod_two_pow]
  have hb : x.testBit k = decide (x / 2 ^ k % 2 = 1) := Nat.testBit_eq_decide_div_mod_eq
  by_cases h : x / 2 ^ k % 2 = 1
  · rw [if_pos h, Nat.testBit_two_pow]
    by_cases e : k = i
    · subst e; simp [hb, h]
    · by_cases l : i < k
      · simp [l, e, Nat.lt_succ_of_lt l]
      · have l' : ¬ i < k + 1 := by omega
        simp [l, l', e]
  · rw [if_neg h, Nat.zero_testBit]
    by_cases e : k = i
    · subst e; simp [hb, h]
    · by_cases l : i < k
      · simp [l, Nat.lt_succ_of_lt l]
      · have l' : ¬ i < k + 1 := by omega
        simp [l, l']
theorem lin_eq (f g : Nat → Nat) (hf : ∀ x y, x < 256 → y < 256 → f (x ^^^ y) = f x ^^^ f y) (hg : ∀ x y, x < 256 → y < 256 → g (x ^^^ y) = g x ^^^ g y)
    (h : ∀ i, i < 8 → f (2 ^ i) = g (2 ^ i)) (x : Nat) (hx : x < 256) : f x = g x := by
  have f0 : f 0 = 0 := by have := hf 0 0 (by omega) (by omega); rw [Nat.xor_self, Nat.xor_self] at this; exact this
  have g0 : g 0 = 0 := by have := hg 0 0 (by omega) (by omega); rw [Nat.xor_self, Nat.xor_self] at this; exact this
  have key : ∀ k, k ≤ 8 → f (x % 2 ^ k) = g (x % 2 ^ k) := by
    intro k
    induction k with
    | zero => intro _; rw [Nat.pow_zero, Nat.mod_one, f0, g0]
    | succ k ih =>
      intro hk
      have hp : 2 ^ k < 256 := Nat.lt_of_lt_of_le (Nat.pow_lt_pow_right (by omega) (by omega : k < 8)) (by omega)
      have hm : x % 2 ^ k < 256 := Nat.lt_of_le_of_lt (Nat.mod_le _ _) hx
      rw [low_bits]
      split
      · rw [hf _ _ hm hp, hg _ _ hm hp, ih (by omega), h k (by omega)]
      · rw [hf _ _ hm (by omega), hg _ _ hm (by omega), ih (by omega), f0, g0]
  have := key 8 (by omega)
  rwa [show (2 : Nat) ^ 8 = 256 from rfl, Nat.mod_eq_of_lt hx] at this

theorem pow_lt (i : Nat) (h : i < 8) : 2 ^ i < 256 := Nat.lt_of_lt_of_le (Nat.pow_lt_pow_right (by omega) h) (by omega)
theorem comm_fin : ∀ i j : Fin 8, ft (2 ^ i.val) (2 ^ j.val) = ft (2 ^ j.val) (2 ^ i.val) := by decide +kernel
theorem ft_comm (a b : Nat) (ha : a < 256) (hb : b < 256) : ft a b = ft b a :=
  lin_eq (fun b => ft a b) (fun b => ft b a) (fun x y _ _ => ft_xor a x y) (fun x y hx hy => ft_xor_left x y a hx hy)
    (fun i hi => lin_eq (fun a => ft a (2 ^ i)) (fun a => ft (2 ^ i) a) (fun x y hx hy => ft_xor_left x y _ hx hy) (fun x y _ _ => ft_xor _ x y)
      (fun j hj => comm_fin ⟨j, hj⟩ ⟨i, hi⟩) a ha) b hb
set_option maxRecDepth 100000 in
theorem assoc_fin : ∀ i j k : Fin 8, ft (ft (2 ^ i.val) (2 ^ j.val)) (2 ^ k.val) = ft (2 ^ i.val) (ft (2 ^ j.val) (2 ^ k.val)) := by decide +kernel
theorem ft_assoc (a b c : Nat) (ha : a < 256) (hb : b < 256) (hc : c < 256) : ft (ft a b) c = ft a (ft b c) :=
  lin_eq (fun a => ft (ft a b) c) (fun a => ft a (ft b c))
    (fun x y hx hy => by show ft (ft (x ^^^ y) b) c = _; rw [ft_xor_left x y b hx hy, ft_xor_left _ _ c (ft_lt x b hx) (ft_lt y b hy)]) (fun x y hx hy => ft_xor_left x y _ hx hy)
    (fun i hi => lin_eq (fun b => ft (ft (2 ^ i) b) c) (fun b => ft (2 ^ i) (ft b c))
      (fun x y _ _ => by show ft (ft (2 ^ i) (x ^^^ y)) c = _; rw [ft_xor, ft_xor_left _ _ c (ft_lt _ _ (pow_lt i hi)) (ft_lt _ _ (pow_lt i hi))]) (fun x y hx hy => by show ft (2 ^ i) (ft (x ^^^ y) c) = _; rw [ft_xor_left x y c hx hy, ft_xor])
      (fun j hj => lin_eq (fun c => ft (ft (2 ^ i) (2 ^ j)) c) (fun c => ft (2 ^ i) (ft (2 ^ j) c)) (fun x y _ _ => ft_xor _ x y) (fun x y _ _ => by show ft (2 ^ i) (ft (2 ^ j) (x ^^^ y)) = _; rw [ft_xor, ft_xor])
        (fun k hk => assoc_fin ⟨i, hi⟩ ⟨j, hj⟩ ⟨k, hk⟩) c hc) b hb) a ha
theorem ft_one_fin : ∀ a : Fin 256, ft a.val 1 = a.val := by decide +kernel
theorem ft_one (a : Nat) (ha : a < 256) : ft a 1 = a := ft_one_fin ⟨a, ha⟩

/-- What impl.FieldInverse reckons: a to the power of 254. -/
def invTo (a : Nat) : Nat → Nat × Nat
  | 0 => (1, ft a a)
  | k + 1 => (ft (invTo a k).2 (invTo a k).1, ft (invTo a k).2 (invTo a k).2)
def finv (a : Nat) : Nat := (invTo a 7).1
theorem invTo_lt (a : Nat) (ha : a < 256) : ∀ k, (invTo a k).1 < 256 ∧ (invTo a k).2 < 256
  | 0 => ⟨by simp [invTo], ft_lt a a ha⟩
  | k + 1 => ⟨ft_lt _ _ (invTo_lt a ha k).2, ft_lt _ _ (invTo_lt a ha k).2⟩
theorem finv_lt (a : Nat) (ha : a < 256) : finv a < 256 := (invTo_lt a ha 7).1
set_option maxRecDepth 100000 in
theorem finv_fin : ∀ a : Fin 256, (a.val ≠ 0 → ft a.val (finv a.val) = 1) ∧ (a.val = 0 → finv a.val = 0) := by decide +kernel
theorem finv_ok (a : Nat) (ha : a < 256) (h : a ≠ 0) : ft a (finv a) = 1 := (finv_fin ⟨a, ha⟩).1 h
theorem finv_zero : finv 0 = 0 := (finv_fin 0).2 rfl
theorem finv_pos (a : Nat) (ha : a < 256) (h : a ≠ 0) : 0 < finv a := by
  have e := finv_ok a ha h
  rcases Nat.eq_zero_or_pos (finv a) with z | z
  · rw [z] at e; have : ft a 0 = 0 := by have := ft_xor a 0 0; simpa using this
    omega
  · exact z
/-- There is one inverse alone. -/
theorem finv_one (a b : Nat) (ha : a < 256) (hb : b < 256) (h : a ≠ 0) (e : ft a b = 1) : b = finv a := by
  have hi := finv_lt a ha
  have e1 : ft (ft b a) (finv a) = ft b (ft a (finv a)) := ft_assoc b a (finv a) hb ha hi
  rw [finv_ok a ha h, ft_one b hb, ft_comm b a hb ha, e, ft_comm 1 _ (by omega) hi, ft_one _ hi] at e1
  exact e1.symm
/-- A byte whose bits are turned by t places. -/
def rot (x t : Nat) : Nat := (x * 2 ^ ((8 - t) % 8) % 256) ||| (x / 2 ^ (8 - (8 - t) % 8))
theorem or8 (a b : Nat) (ha : a < 256) (hb : b < 256) : bits .or .u8 (a : Int) (b : Int) = ((a ||| b : Nat) : Int) := u8_or_nat a b ha hb
theorem rot_lt (x t : Nat) (hx : x < 256) : rot x t < 256 :=
  Nat.or_lt_two_pow (n := 8) (by omega) (Nat.lt_of_le_of_lt (Nat.div_le_self _ _) hx)
theorem rot_at (x s d : Nat) (hx : x < 256) : bits .or .u8 ((x : Int) * (s : Nat) % 256) ((x : Int) / (d : Nat)) = (((x * s % 256) ||| (x / d) : Nat) : Int) := by
  have e1 : ((x : Int) * (s : Nat) % 256) = ((x * s % 256 : Nat) : Int) := by rw [Int.natCast_emod, Int.natCast_mul]; rfl
  have e2 : ((x : Int) / (d : Nat)) = ((x / d : Nat) : Int) := (Int.natCast_ediv x d).symm
  rw [e1, e2]
  exact or8 _ _ (by omega) (Nat.lt_of_le_of_lt (Nat.div_le_self _ _) hx)
theorem rot_4 (x : Nat) (hx : x < 256) : bits .or .u8 ((x : Int) * 16 % 256) ((x : Int) / 16) = ((rot x 4 : Nat) : Int) := rot_at x 16 16 hx
theorem rot_5 (x : Nat) (hx : x < 256) : bits .or .u8 ((x : Int) * 8 % 256) ((x : Int) / 32) = ((rot x 5 : Nat) : Int) := rot_at x 8 32 hx
theorem rot_6 (x : Nat) (hx : x < 256) : bits .or .u8 ((x : Int) * 4 % 256) ((x : Int) / 64) = ((rot x 6 : Nat) : Int) := rot_at x 4 64 hx
theorem rot_7 (x : Nat) (hx : x < 256) : bits .or .u8 ((x : Int) * 2 % 256) ((x : Int) / 128) = ((rot x 7 : Nat) : Int) := rot_at x 2 128 hx

/-- The box. -/
def sbx (a : Nat) : Nat := ((((99 ^^^ rot (finv a) 0) ^^^ rot (finv a) 4) ^^^ rot (finv a) 5) ^^^ rot (finv a) 6) ^^^ rot (finv a) 7
theorem sbx_lt (a : Nat) (ha : a < 256) : sbx a < 256 := by
  have h := finv_lt a ha
  unfold sbx
  repeat (first | exact rot_lt _ _ h | omega | refine Nat.xor_lt_two_pow (n := 8) ?_ ?_)
theorem sbx_sum (x : Nat) (hx : x < 256) : bits .xor .u8 (bits .xor .u8 (bits .xor .u8 (bits .xor .u8 (bits .xor .u8 99 (rot x 0 : Nat)) (rot x 4 : Nat)) (rot x 5 : Nat)) (rot x 6 : Nat)) (rot x 7 : Nat) = (((((99 ^^^ rot x 0) ^^^ rot x 4) ^^^ rot x 5) ^^^ rot x 6) ^^^ rot x 7 : Nat) := by
  have l := fun t => rot_lt x t hx
  have p : ∀ a b : Nat, a < 256 → b < 256 → a ^^^ b < 256 := fun a b ha hb => Nat.xor_lt_two_pow (n := 8) ha hb
  have e := xor8 99 (rot x 0) (by omega) (l 0)
  rw [show ((99 : Nat) : Int) = (99 : Int) from rfl] at e
  rw [e, xor8 _ _ (p _ _ (by omega) (l 0)) (l 4), xor8 _ _ (p _ _ (p _ _ (by omega) (l 0)) (l 4)) (l 5), xor8 _ _ (p _ _ (p _ _ (p _ _ (by omega) (l 0)) (l 4)) (l 5)) (l 6), xor8 _ _ (p _ _ (p _ _ (p _ _ (p _ _ (by omega) (l 0)) (l 4)) (l 5)) (l 6)) (l 7)]
def boxed : ByteArray := ⟨#[
  99, 124, 119, 123, 242, 107, 111, 197, 48, 1, 103, 43, 254, 215, 171, 118, 202, 130, 201, 125, 250, 89, 71, 240, 173, 212, 162, 175, 156, 164, 114, 192,
  183, 253, 147, 38, 54, 63, 247, 204, 52, 165, 229, 241, 113, 216, 49, 21, 4, 199, 35, 195, 24, 150, 5, 154, 7, 18, 128, 226, 235, 39, 178, 117,
  9, 131, 44, 26, 27, 110, 90, 160, 82, 59, 214, 179, 41, 227, 47, 132, 83, 209, 0, 237, 32, 252, 177, 91, 106, 203, 190, 57, 74, 76, 88, 207,
  208, 239, 170, 251, 67, 77, 51, 133, 69, 249, 2, 127, 80, 60, 159, 168, 81, 163, 64, 143, 146, 157, 56, 245, 188, 182, 218, 33, 16, 255, 243, 210,
  205, 12, 19, 236, 95, 151, 68, 23, 196, 167, 126, 61, 100, 93, 25, 115, 96, 129, 79, 220, 34, 42, 144, 136, 70, 238, 184, 20, 222, 94, 11, 219,
  224, 50, 58, 10, 73, 6, 36, 92, 194, 211, 172, 98, 145, 149, 228, 121, 231, 200, 55, 109, 141, 213, 78, 169, 108, 86, 244, 234, 101, 122, 174, 8,
  186, 120, 37, 46, 28, 166, 180, 198, 232, 221, 116, 31, 75, 189, 139, 138, 112, 62, 181, 102, 72, 3, 246, 14, 97, 53, 87, 185, 134, 193, 29, 158,
  225, 248, 152, 17, 105, 217, 142, 148, 155, 30, 135, 233, 206, 85, 40, 223, 140, 161, 137, 13, 191, 230, 66, 104, 65, 153, 45, 15, 176, 84, 187, 22]⟩
set_option maxRecDepth 100000 in
theorem box_fin : ∀ a : Fin 256, (boxed[a.val]'(by have h : boxed.size = 256 := by decide +kernel
                                                   omega)).toNat = sbx a.val := by decide +kernel
end Go.Proofs.Ytflnhjbanlpjiai.M

namespace Go.Proofs.Ytflnhjbanlpjiai.M
open Go.RowKit

/-- Byte by byte the xor of both, as many as the first has. -/
def xl (a b : List Nat) : List Nat := (List.range a.length).map fun i => a.getD i 0 ^^^ b.getD i 0
theorem xl_len (a b : List Nat) : (xl a b).length = a.length := by simp [xl]
theorem xl_at (a b : List Nat) (i : Nat) (h : i < (xl a b).length) (ha : i < a.length) (hb : i < b.length) : (xl a b)[i] = a[i] ^^^ b[i] := by
  simp [xl, List.getD, List.getElem?_eq_getElem ha, List.getElem?_eq_getElem hb]
theorem xor_lt (a b : Nat) (ha : a < 256) (hb : b < 256) : a ^^^ b < 256 := Nat.xor_lt_two_pow (n := 8) ha hb
theorem xor8' (a b : Nat) (ha : a < 256) (hb : b < 256) : bits .xor .u8 (a : Int) (b : Int) = ((a ^^^ b : Nat) : Int) := u8_xor_nat a b ha hb
theorem cell_set_far {w : World} {g k b o : Nat} {u : Value} (hc : w.cell? ⟨b, o, none⟩ = some u) (h : b ≠ g) (v : Value) : (w.setCell ⟨g, k, none⟩ v).cell? ⟨b, o, none⟩ = some u := by
  rw [World.cell?_of_block (w := w) (a := ⟨b, o, none⟩) (heap_setCell_other w ⟨g, k, none⟩ b v h)]; exact hc
end Go.Proofs.Ytflnhjbanlpjiai.M

namespace Go.Proofs.Ytflnhjbanlpjiai.M
open Go.RowKit

set_option maxRecDepth 100000 in
theorem ft2_fin : ∀ a : Fin 256, ft a.val 2 = xt a.val ∧ ft a.val 3 = xt a.val ^^^ a.val := by decide +kernel
theorem ft2 (a : Nat) (h : a < 256) : ft a 2 = xt a := (ft2_fin ⟨a, h⟩).1
theorem ft3 (a : Nat) (h : a < 256) : ft a 3 = xt a ^^^ a := (ft2_fin ⟨a, h⟩).2

/-- The powers of 3. -/
def pw : Nat → Nat
  | 0 => 1
  | k + 1 => pw k ^^^ xt (pw k)
theorem pw_lt : ∀ k, pw k < 256
  | 0 => by decide
  | k + 1 => Nat.xor_lt_two_pow (n := 8) (pw_lt k) (xt_lt _)
/-- The box of the byte whose inverse is x. -/
def bi (x : Nat) : Nat := ((((99 ^^^ rot x 0) ^^^ rot x 4) ^^^ rot x 5) ^^^ rot x 6) ^^^ rot x 7
theorem bi_lt (x : Nat) (h : x < 256) : bi x < 256 := by
  unfold bi
  repeat (first | exact rot_lt _ _ h | omega | refine Nat.xor_lt_two_pow (n := 8) ?_ ?_)
theorem sbx_bi (a : Nat) : sbx a = bi (finv a) := rfl
/-- The row of powers when k of them are there. -/
def pws (k : Nat) : List Nat := (List.range k).map pw ++ List.replicate (255 - k) 0
theorem pws_len (k : Nat) (h : k ≤ 255) : (pws k).length = 255 := by simp [pws]; omega
theorem pws_set (k : Nat) (h : k < 255) : (pws k).set k (pw k) = pws (k + 1) := by
  have e : 255 - k = (255 - (k + 1)) + 1 := by omega
  unfold pws
  rw [e, List.replicate_succ, List.set_append_right _ _ (by simp), List.range_succ]
  simp
theorem pws_atk (k j : Nat) (h : j < k) : (pws k)[j]? = some (pw j) := by
  unfold pws
  rw [List.getElem?_append_left (by simp; omega)]
  simp [h]
theorem pws_at (j : Nat) (h : j < 255) : (pws 255)[j]? = some (pw j) := pws_atk 255 j h
theorem pws_zero : pws 0 = List.replicate 255 0 := by rw [pws, List.range_zero, List.map_nil, List.nil_append]
/-- The row of the box when k powers have been gone through. -/
def bx : Nat → List Nat
  | 0 => (List.replicate 256 0).set 0 (bi 0)
  | k + 1 => (bx k).set (pw k) (bi (pw ((255 - k) % 255)))
theorem bx_len : ∀ k, (bx k).length = 256
  | 0 => by rw [bx, List.length_set, List.length_replicate]
  | k + 1 => by rw [bx, List.length_set, bx_len k]
/-- The whole box. -/
def boxL : List Nat := (List.range 256).map sbx
theorem boxL_len : boxL.length = 256 := by rw [boxL, List.length_map, List.length_range]
theorem boxL_at (a : Nat) (h : a < 256) : boxL[a]? = some (sbx a) := by rw [boxL, List.getElem?_map, List.getElem?_range h]; rfl
set_option maxRecDepth 100000 in
set_option maxHeartbeats 4000000 in
theorem bx_end : bx 255 = boxL := by decide +kernel

/-- Each byte by the box. -/
def sbl (l : List Nat) : List Nat := l.map sbx
theorem sbl_len (l : List Nat) : (sbl l).length = l.length := by simp [sbl]
/-- The rows turned. -/
def shl (l : List Nat) : List Nat := (List.range 16).map fun i => l.getD ((i + 4 * (i % 4)) % 16) 0
theorem shl_len (l : List Nat) : (shl l).length = 16 := by simp [shl]
/-- The columns mixed: byte i of the new block. -/
def mxb (l : List Nat) (i : Nat) : Nat :=
  let g := fun j => l.getD (i / 4 * 4 + (i + j) % 4) 0
  ((xt (g 0) ^^^ (xt (g 1) ^^^ g 1)) ^^^ g 2) ^^^ g 3
def mxl (l : List Nat) : List Nat := (List.range 16).map (mxb l)
theorem mxl_len (l : List Nat) : (mxl l).length = 16 := by simp [mxl]
theorem shl_len16 (l : List Nat) (_ : l.length = 16) : (shl l).length = 16 := shl_len l
theorem mxl_len16 (l : List Nat) (_ : l.length = 16) : (mxl l).length = 16 := mxl_len l
theorem sbl_len16 (l : List Nat) (h : l.length = 16) : (sbl l).length = 16 := by rw [sbl_len, h]
end Go.Proofs.Ytflnhjbanlpjiai.M

namespace Go.Proofs.Ytflnhjbanlpjiai.M
open Go.RowKit

/-- What is added to word n of the key to make word 4 + n (its byte k). -/
def tw (F : Nat → Nat) (n k : Nat) : Nat := if n % 4 = 0 then sbx (F (12 + 4 * n + (k + 1) % 4)) ^^^ (if k = 0 then xtN 1 (n / 4) else 0) else F (12 + 4 * n + k)
def ks (key : List Nat) : Nat → List Nat
  | 0 => key
  | n + 1 => ks key n ++ (List.range 4).map fun k => gt (ks key n) (4 * n + k) ^^^ tw (gt (ks key n)) n k
theorem ks_len (key : List Nat) (hk : key.length = 16) : ∀ n, (ks key n).length = 16 + 4 * n
  | 0 => hk
  | n + 1 => by rw [ks, List.length_append, ks_len key hk n, List.length_map, List.length_range]; omega
theorem gt_append (l m : List Nat) (j : Nat) (h : j < l.length) : gt (l ++ m) j = gt l j := by
  unfold gt
  rw [List.getD_eq_getElem?_getD, List.getD_eq_getElem?_getD, List.getElem?_append_left h]
theorem gt_append2 (l m : List Nat) (j : Nat) : gt (l ++ m) (l.length + j) = gt m j := by
  unfold gt
  rw [List.getD_eq_getElem?_getD, List.getD_eq_getElem?_getD, List.getElem?_append_right (by omega), show l.length + j - l.length = j by omega]
theorem ks_pre (key : List Nat) (hk : key.length = 16) (n j : Nat) (hj : j < 16 + 4 * n) : ∀ d, gt (ks key (n + d)) j = gt (ks key n) j
  | 0 => rfl
  | d + 1 => by
    rw [show n + (d + 1) = n + d + 1 by omega, ks, gt_append _ _ _ (by rw [ks_len key hk]; omega)]
    exact ks_pre key hk n j hj d
/-- Byte j of the words of a key. -/
def kf (key : List Nat) (j : Nat) : Nat := gt (ks key 40) j
theorem kf_at (key : List Nat) (hk : key.length = 16) (n j : Nat) (hn : n ≤ 40) (hj : j < 16 + 4 * n) : kf key j = gt (ks key n) j := by
  have h := ks_pre key hk n j hj (40 - n)
  rw [show n + (40 - n) = 40 by omega] at h
  exact h
theorem kf_low (key : List Nat) (hk : key.length = 16) (j : Nat) (hj : j < 16) : kf key j = gt key j := kf_at key hk 0 j (by omega) (by omega)
theorem tw_congr (F G : Nat → Nat) (n k : Nat) (h : ∀ j, j < 16 + 4 * n → F j = G j) (hk : k < 4) : tw F n k = tw G n k := by
  unfold tw
  split
  · rw [h _ (by omega)]
  · rw [h _ (by omega)]
theorem kf_step (key : List Nat) (hk : key.length = 16) (n k : Nat) (hn : n < 40) (h4 : k < 4) : kf key (16 + 4 * n + k) = kf key (4 * n + k) ^^^ tw (kf key) n k := by
  have e : ∀ j, j < 16 + 4 * n → kf key j = gt (ks key n) j := fun j hj => kf_at key hk n j (by omega) hj
  rw [kf_at key hk (n + 1) _ (by omega) (by omega), e (4 * n + k) (by omega), tw_congr (kf key) (gt (ks key n)) n k e h4, ks]
  have l := ks_len key hk n
  rw [← l, gt_append2]
  rw [gt_eq _ k (by simp; exact h4)]
  simp
theorem tw_lt (F : Nat → Nat) (h : ∀ j, F j < 256) (n k : Nat) : tw F n k < 256 := by
  unfold tw
  split
  · refine Nat.xor_lt_two_pow (n := 8) (sbx_lt _ (h _)) ?_
    split
    · exact xtN_lt 1 (by omega) _
    · omega
  · exact h _
theorem ks_byt (key : List Nat) (h : Byt key) : ∀ n, Byt (ks key n)
  | 0 => h
  | n + 1 => by
    intro x hx
    rw [ks] at hx
    have g := gt_byt _ (ks_byt key h n)
    rcases List.mem_append.1 hx with hx | hx
    · exact ks_byt key h n x hx
    · obtain ⟨k, _, rfl⟩ := List.mem_map.1 hx
      exact xor_lt _ _ (g _) (tw_lt _ g n k)
theorem kf_lt (key : List Nat) (h : Byt key) (j : Nat) : kf key j < 256 := gt_byt _ (ks_byt key h 40) j
/-- A row of N bytes of which the first m are told by F. -/
def rowTo (N : Nat) (F : Nat → Nat) (m : Nat) : List Nat := (List.range N).map fun j => if j < m then F j else 0
theorem rowTo_len (N : Nat) (F : Nat → Nat) (m : Nat) : (rowTo N F m).length = N := by simp [rowTo]
theorem rowTo_get (N : Nat) (F : Nat → Nat) (m j : Nat) (hj : j < N) : (rowTo N F m)[j]? = some (if j < m then F j else 0) := by simp [rowTo, hj]
theorem rowTo_gt (N : Nat) (F : Nat → Nat) (m j : Nat) (hj : j < m) (hm : m ≤ N) : gt (rowTo N F m) j = F j := by
  rw [gt_some _ _ _ (rowTo_get N F m j (by omega)), if_pos hj]
theorem rowTo_set (N : Nat) (F : Nat → Nat) (m : Nat) (hm : m < N) : (rowTo N F m).set m (F m) = rowTo N F (m + 1) := by
  apply List.ext_getElem?
  intro i
  rw [List.getElem?_set, rowTo_len]
  by_cases hi : i < N
  · rw [rowTo_get N F m i hi, rowTo_get N F (m + 1) i hi]
    by_cases e : m = i
    · subst e; rw [if_pos rfl, if_pos hm, if_pos (by omega)]
    · rw [if_neg e]
      by_cases l : i < m
      · rw [if_pos l, if_pos (by omega)]
      · rw [if_neg l, if_neg (by omega)]
  · rw [List.getElem?_eq_none (by rw [rowTo_len]; omega), List.getElem?_eq_none (by rw [rowTo_len]; omega), if_neg (by omega)]
theorem rowTo_zero (N : Nat) (F : Nat → Nat) : rowTo N F 0 = zs N := by
  apply List.ext_getElem?
  intro i
  by_cases hi : i < N
  · rw [rowTo_get N F 0 i hi, zs, List.getElem?_replicate, if_neg (by omega), if_pos hi]
  · rw [List.getElem?_eq_none (by rw [rowTo_len]; omega), List.getElem?_eq_none (by rw [zs_len]; omega)]
/-- A row of which the first bytes are a list. -/
theorem rowTo_front (N : Nat) (F : Nat → Nat) (l : List Nat) (hl : l.length ≤ N) (h : ∀ j, j < l.length → F j = gt l j) : rowTo N F l.length = l ++ List.replicate (N - l.length) 0 := by
  apply List.ext_getElem?
  intro i
  by_cases hi : i < N
  · rw [rowTo_get N F _ i hi]
    by_cases l1 : i < l.length
    · rw [if_pos l1, List.getElem?_append_left l1, h i l1, gt_eq l i l1, List.getElem?_eq_getElem l1]
    · rw [if_neg l1, List.getElem?_append_right (by omega), List.getElem?_replicate, if_pos (by omega)]
  · rw [List.getElem?_eq_none (by rw [rowTo_len]; omega), List.getElem?_eq_none (by simp; omega)]
/-- The word that is added, as a list. -/
def twl (F : Nat → Nat) (n : Nat) : List Nat := (List.range 4).map (tw F n)
theorem twl_len (F : Nat → Nat) (n : Nat) : (twl F n).length = 4 := by simp [twl]
theorem twl_gt (F : Nat → Nat) (n k : Nat) (h : k < 4) : gt (twl F n) k = tw F n k := by
  rw [gt_eq _ k (by rw [twl_len]; exact h)]
  simp [twl]
theorem twl_yes (F : Nat → Nat) (n p p1 p2 p3 : Nat) (h : n % 4 = 0) (hp : p = 12 + 4 * n) (h1 : p1 = p + 1) (h2 : p2 = p + 2) (h3 : p3 = p + 3) :
    twl F n = [sbx (F p1) ^^^ xtN 1 ((n + 3) / 4), sbx (F p2), sbx (F p3), sbx (F p)] := by
  have e : (n + 3) / 4 = n / 4 := by omega
  subst hp
  subst h1
  subst h2
  subst h3
  rw [e]
  simp [twl, tw, h, List.range_succ, Nat.add_assoc]
theorem twl_no (F : Nat → Nat) (n p p1 p2 p3 : Nat) (h : ¬ n % 4 = 0) (hp : p = 12 + 4 * n) (h1 : p1 = p + 1) (h2 : p2 = p + 2) (h3 : p3 = p + 3) :
    twl F n = [F p, F p1, F p2, F p3] := by
  subst hp
  subst h1
  subst h2
  subst h3
  simp [twl, tw, h, List.range_succ]
theorem list4 (l : List Nat) (h : l.length = 4) : ∃ a b c d, l = [a, b, c, d] := by
  match l, h with
  | [a, b, c, d], _ => exact ⟨a, b, c, d, rfl⟩
/-- Four bytes stored, one behind the other, into a row that grows. -/
theorem Ar.set4 {w : World} {g N m : Nat} {T : TypeId} {F : Nat → Nat} (h : Ar w g T (rowTo N F m)) (hm : m + 4 ≤ N) (l : List Nat) (hl : l.length = 4) (hF : ∀ k, k < 4 → gt l k = F (m + k)) : Ar (w.setCells g m (l.map bv)) g T (rowTo N F (m + 4)) := by
  obtain ⟨a, b, c, d, rfl⟩ := list4 l hl
  have e0 : a = F m := hF 0 (by omega)
  have e1 : b = F (m + 1) := hF 1 (by omega)
  have e2 : c = F (m + 2) := hF 2 (by omega)
  have e3 : d = F (m + 3) := hF 3 (by omega)
  have h0 := h.stored m (F m)
  rw [rowTo_set N F m (by omega)] at h0
  have h1 := h0.stored (m + 1) (F (m + 1))
  rw [rowTo_set N F (m + 1) (by omega)] at h1
  have h2 := h1.stored (m + 2) (F (m + 2))
  rw [rowTo_set N F (m + 2) (by omega)] at h2
  have h3 := h2.stored (m + 3) (F (m + 3))
  rw [rowTo_set N F (m + 3) (by omega)] at h3
  rw [e0, e1, e2, e3]
  exact h3
theorem below_set4 {B g m : Nat} {w w' : World} (hB : Below B w w') (hg : B ≤ g) (l : List Nat) (hl : l.length = 4) : Below B w (w'.setCells g m (l.map bv)) := by
  obtain ⟨a, b, c, d, rfl⟩ := list4 l hl
  exact (((hB.setCell (p := ⟨g, m, none⟩) hg _).setCell (p := ⟨g, m + 1, none⟩) hg _).setCell (p := ⟨g, m + 1 + 1, none⟩) hg _).setCell (p := ⟨g, m + 1 + 1 + 1, none⟩) hg _
theorem Ar.far4 {w : World} {g g' m : Nat} {T : TypeId} {l : List Nat} (h : Ar w g T l) (hne : g ≠ g') (l' : List Nat) (hl : l'.length = 4) : Ar (w.setCells g' m (l'.map bv)) g T l := by
  obtain ⟨a, b, c, d, rfl⟩ := list4 l' hl
  exact (((h.far _ hne).far _ hne).far _ hne).far _ hne
theorem Ar.there {w : World} {g : Nat} {T : TypeId} {l : List Nat} (h : Ar w g T l) (o n : Nat) (hn : o + n ≤ l.length) : w.there g o n := fun j hj => ⟨by rw [h.cell (o + j) (by omega)]; rfl, h.open (o + j)⟩
theorem Ar.range4 {w : World} {g p : Nat} {T : TypeId} {l : List Nat} (h : Ar w g T l) (a b c d : Nat) (hp : p + 4 ≤ l.length) (e0 : gt l p = a) (e1 : gt l (p + 1) = b) (e2 : gt l (p + 2) = c) (e3 : gt l (p + 3) = d) : w.rangeAt g p ([a, b, c, d].map bv) := fun j v hv => by
  match j, hv with
  | 0, hv => cases hv; rw [← e0]; exact h.cell p (by omega)
  | 1, hv => cases hv; rw [← e1]; exact h.cell (p + 1) (by omega)
  | 2, hv => cases hv; rw [← e2]; exact h.cell (p + 2) (by omega)
  | 3, hv => cases hv; rw [← e3]; exact h.cell (p + 3) (by omega)
  | n + 4, hv => simp at hv
end Go.Proofs.Ytflnhjbanlpjiai.M

namespace Go.Proofs.Ytflnhjbanlpjiai.M
open Go.RowKit

theorem gt_set_same (l : List Nat) (k x : Nat) (h : k < l.length) : gt (l.set k x) k = x := by
  rw [gt_eq _ k (by rw [List.length_set]; exact h)]
  simp
/-- Round key r. -/
def rkl (F : Nat → Nat) (r : Nat) : List Nat := (List.range 16).map fun i => F (16 * r + i)
theorem rkl_len (F : Nat → Nat) (r : Nat) : (rkl F r).length = 16 := by simp [rkl]
theorem rkl_gt (F : Nat → Nat) (r i : Nat) (h : i < 16) : gt (rkl F r) i = F (16 * r + i) := by
  rw [gt_eq _ i (by rw [rkl_len]; exact h)]
  simp [rkl]
theorem rkl_byt (F : Nat → Nat) (h : ∀ j, F j < 256) (r : Nat) : Byt (rkl F r) := by
  intro x hx
  obtain ⟨i, _, rfl⟩ := List.mem_map.1 hx
  exact h _
/-- The block behind round r. -/
def stt (F : Nat → Nat) (b : List Nat) : Nat → List Nat
  | 0 => xl b (rkl F 0)
  | r + 1 => if r + 1 < 10 then xl (mxl (shl (sbl (stt F b r)))) (rkl F (r + 1)) else xl (shl (sbl (stt F b r))) (rkl F (r + 1))
theorem stt_len (F : Nat → Nat) (b : List Nat) (hb : b.length = 16) : ∀ r, (stt F b r).length = 16
  | 0 => by rw [stt, xl_len, hb]
  | r + 1 => by
    rw [stt]
    split
    · rw [xl_len, mxl_len]
    · rw [xl_len, shl_len]
theorem xl_byt (a b : List Nat) (ha : Byt a) (hb : Byt b) : Byt (xl a b) := by
  intro x hx
  obtain ⟨i, _, rfl⟩ := List.mem_map.1 hx
  exact xor_lt _ _ (gt_byt a ha i) (gt_byt b hb i)
theorem sbl_byt (l : List Nat) (h : Byt l) : Byt (sbl l) := by
  intro x hx
  obtain ⟨i, hi, rfl⟩ := List.mem_map.1 hx
  exact sbx_lt _ (h i hi)
theorem shl_byt (l : List Nat) (h : Byt l) : Byt (shl l) := by
  intro x hx
  obtain ⟨i, _, rfl⟩ := List.mem_map.1 hx
  exact gt_byt l h _
theorem mxl_byt (l : List Nat) (h : Byt l) : Byt (mxl l) := by
  intro x hx
  obtain ⟨i, _, rfl⟩ := List.mem_map.1 hx
  have g := gt_byt l h
  exact xor_lt _ _ (xor_lt _ _ (xor_lt _ _ (xt_lt _) (xor_lt _ _ (xt_lt _) (g _))) (g _)) (g _)
theorem stt_byt (F : Nat → Nat) (hF : ∀ j, F j < 256) (b : List Nat) (hb : Byt b) : ∀ r, Byt (stt F b r)
  | 0 => xl_byt _ _ hb (rkl_byt F hF 0)
  | r + 1 => by
    have ih := stt_byt F hF b hb r
    rw [stt]
    split
    · exact xl_byt _ _ (mxl_byt _ (shl_byt _ (sbl_byt _ ih))) (rkl_byt F hF _)
    · exact xl_byt _ _ (shl_byt _ (sbl_byt _ ih)) (rkl_byt F hF _)
/-- What the cipher makes of a block. -/
def enc (F : Nat → Nat) (b : List Nat) : List Nat := stt F b 10
theorem xl_gt (a b : List Nat) (i : Nat) (ha : i < a.length) : gt (xl a b) i = gt a i ^^^ gt b i := by
  rw [gt_eq _ i (by rw [xl_len]; exact ha)]
  simp [xl, gt]
theorem shs_gt (l : List Nat) (hl : l.length = 16) (i : Nat) (hi : i < 16) : gt (shl (sbl l)) i = sbx (gt l ((i + 4 * (i % 4)) % 16)) := by
  rw [gt_eq _ i (by rw [shl_len]; exact hi)]
  simp only [shl, List.getElem_map, List.getElem_range]
  have h : (i + 4 * (i % 4)) % 16 < l.length := by omega
  show gt (sbl l) _ = _
  rw [gt_eq (sbl l) _ (by rw [sbl_len]; exact h), gt_eq l _ h]
  simp [sbl]
/-- A column's byte mixed, as the sum of all four of them and twice two of them. -/
theorem mix_sum (g0 g1 g2 g3 k s : Nat) (hs : s = ((g0 ^^^ g1) ^^^ g2) ^^^ g3) (h0 : g0 < 256) (h1 : g1 < 256) :
    (((g0 ^^^ k) ^^^ s) ^^^ xt (g0 ^^^ g1)) = ((((xt g0 ^^^ (xt g1 ^^^ g1)) ^^^ g2) ^^^ g3) ^^^ k) := by
  rw [hs, xt_xor g0 g1 h0 h1]
  apply Nat.eq_of_testBit_eq
  intro n
  simp only [Nat.testBit_xor]
  generalize g0.testBit n = a
  generalize g1.testBit n = b
  generalize g2.testBit n = c
  generalize g3.testBit n = d
  generalize k.testBit n = e
  generalize (xt g0).testBit n = f
  generalize (xt g1).testBit n = g
  cases a <;> cases b <;> cases c <;> cases d <;> cases e <;> cases f <;> cases g <;> rfl
theorem sum_turn (a b c d : Nat) : (((a ^^^ b) ^^^ c) ^^^ d) = (((b ^^^ c) ^^^ d) ^^^ a) := by
  rw [Nat.xor_assoc, Nat.xor_assoc, Nat.xor_comm a, ← Nat.xor_assoc]
theorem mxl_gt (l : List Nat) (i : Nat) (hi : i < 16) : gt (mxl l) i = ((xt (gt l i) ^^^ (xt (gt l (i / 4 * 4 + (i + 1) % 4)) ^^^ gt l (i / 4 * 4 + (i + 1) % 4))) ^^^ gt l (i / 4 * 4 + (i + 2) % 4)) ^^^ gt l (i / 4 * 4 + (i + 3) % 4) := by
  rw [gt_eq _ i (by rw [mxl_len]; exact hi)]
  simp only [mxl, List.getElem_map, List.getElem_range, mxb]
  unfold gt
  rw [show i / 4 * 4 + (i + 0) % 4 = i by omega]
/-- Byte 4m + k behind a round that mixes. -/
theorem stt_mix (F : Nat → Nat) (b Y : List Nat) (n m k : Nat) (hn : n + 1 < 10) (hY : Y = shl (sbl (stt F b n))) (y : Byt Y) (hm : m < 4) (hk : k < 4) :
    gt (stt F b (n + 1)) (4 * m + k) = (((gt Y (4 * m + k) ^^^ F (16 * (n + 1) + (4 * m + k))) ^^^ (((gt Y (4 * m) ^^^ gt Y (4 * m + 1)) ^^^ gt Y (4 * m + 2)) ^^^ gt Y (4 * m + 3))) ^^^ xt (gt Y (4 * m + k) ^^^ gt Y (4 * m + (k + 1) % 4))) := by
  have g := gt_byt Y y
  rw [stt, if_pos hn, ← hY, xl_gt _ _ _ (by rw [mxl_len]; omega), rkl_gt _ _ _ (by omega), mxl_gt _ _ (by omega)]
  rw [show (4 * m + k) / 4 * 4 = 4 * m by omega, show (4 * m + k + 1) % 4 = (k + 1) % 4 by omega, show (4 * m + k + 2) % 4 = (k + 2) % 4 by omega, show (4 * m + k + 3) % 4 = (k + 3) % 4 by omega]
  refine (mix_sum _ _ _ _ _ _ ?_ (g _) (g _)).symm
  match k, hk with
  | 0, _ => rfl
  | 1, _ => exact sum_turn _ _ _ _
  | 2, _ => exact (sum_turn _ _ _ _).trans (sum_turn _ _ _ _)
  | 3, _ => exact ((sum_turn _ _ _ _).trans (sum_turn _ _ _ _)).trans (sum_turn _ _ _ _)
theorem stt_last (F : Nat → Nat) (b Y : List Nat) (n i : Nat) (hn : ¬ n + 1 < 10) (hY : Y = shl (sbl (stt F b n))) (hi : i < 16) :
    gt (stt F b (n + 1)) i = gt Y i ^^^ F (16 * (n + 1) + i) := by
  rw [stt, if_neg hn, ← hY, xl_gt _ _ _ (by rw [hY, shl_len]; exact hi), rkl_gt _ _ _ hi]
/-- Twice a byte, as the model reckons it. -/
theorem dbl_fin : ∀ a : Fin 256, (a.val * 2 % 256) ^^^ (a.val / 128 * 27) = xt a.val := by decide +kernel
end Go.Proofs.Ytflnhjbanlpjiai.M

namespace Go.Proofs.Ytflnhjbanlpjiai.W
open Go.ChangeShapes Go.WideShapes Go.ChangeAt Go.RowKit
open Go.Proofs.Ytflnhjbanlpjiai.M

theorem size8 (w : World) : (sizeOf 5).run Try.prog w = .ok 1 w := by kernel_rfl
theorem agg8 (w : World) : (isAgg 5).run Try.prog w = .ok false w := by kernel_rfl
theorem idx_arr (T : TypeId) (n : Nat) (hu : Try.prog.underlying T = some (.array n 5)) (l : List Nat) (hl : l.length = n) (k : Nat) (hk : k < n) (w : World) :
    (Instr.index T (.agg (arr l)) (.int .i64 (k : Int))).run Try.prog w = .ok (.int .u8 (gt l k : Nat)) w := by
  have h2 : (arr l)[k]? = some (.int .u8 (gt l k : Nat)) := arr_get l k (by omega)
  simp [Instr.index, run_underlying hu, asIntOf, part, h2, go_sem]
  intro h
  omega
/-- A slice as an array that is pointed at. -/
theorem arr_at (T e : TypeId) (n : Nat) (hu : Try.prog.underlying T = some (.array n e)) (a : Option Addr) (len cap : Nat) (h : n ≤ len) (w : World) :
    (Instr.arrayAt T (.slice a len cap)).run Try.prog w = .ok (.pointer a) w := by
  simp [Instr.arrayAt, run_underlying hu, show ¬ len < n by omega, go_sem]
end Go.Proofs.Ytflnhjbanlpjiai.W

namespace Go.Proofs.Ytflnhjbanlpjiai.W
open Go.ChangeShapes Go.WideShapes Go.ChangeAt Go.RowKit
open Go.Proofs.Ytflnhjbanlpjiai.M

set_option maxRecDepth 100000 in
theorem ssub (a : Nat) (ha : a < 256) (w : World) :
    Calls Try.prog 48 #[.int .u8 (a : Int)] w fun e w' => e = .returned (.int .u8 (sbx a : Nat)) ∧ w' = w := by
  go_enter Try.func48, Try.ntmps48
  go_wp2
  go_ret
  exact ⟨ret_int (congrArg (fun n : Nat => (n : Int)) (box_fin ⟨a, ha⟩)), rfl⟩

end Go.Proofs.Ytflnhjbanlpjiai.W

namespace Go.Proofs.Ytflnhjbanlpjiai.W
open Go.ChangeShapes Go.WideShapes Go.ChangeAt Go.RowKit
open Go.Proofs.Ytflnhjbanlpjiai.M

theorem dbl (a : Nat) (ha : a < 256) (w : World) :
    Calls Try.prog 60 #[.int .u8 (a : Int)] w fun e w' => e = .returned (.int .u8 (xt a : Nat)) ∧ w' = w := by
  have e : bits .xor .u8 ((a : Int) * 2 % 256) ((a : Int) / 128 * 27) = ((xt a : Nat) : Int) := by
    have e1 : ((a : Int) * 2 % 256) = ((a * 2 % 256 : Nat) : Int) := by omega
    have e2 : ((a : Int) / 128 * 27) = ((a / 128 * 27 : Nat) : Int) := by omega
    rw [e1, e2, xor8 _ _ (by omega) (by omega), dbl_fin ⟨a, ha⟩]
  go_enter Try.func60, Try.ntmps60
  go_wp2
  go_ret
  exact ⟨rfl, rfl⟩

theorem idx_16 (g j : Nat) (hj : j < 16) (w : World) : (Instr.indexAt 38 (.pointer (some ⟨g, 0, none⟩)) (.int .i64 (j : Int))).run Try.prog w = .ok (.pointer (some ⟨g, j, none⟩)) w := by
  have hs : ∀ w : World, (sizeOf (Try.prog.elem 38)).run Try.prog w = .ok 1 w := fun _ => by kernel_rfl
  have hl : Try.prog.arrayLen 38 = 16 := by kernel_rfl
  rw [run_indexAt_array (P := Try.prog) w 38 _ .i64 (j : Int) (by kernel_rfl), hl, if_pos (by omega), hs]
  simp [Result.andThen, Addr.add_lit]
theorem idx_sl (g o n c j : Nat) (hj : j < n) (w : World) : (Instr.indexAt 22 (.slice (some ⟨g, o, none⟩) n c) (.int .i64 (j : Int))).run Try.prog w = .ok (.pointer (some ⟨g, o + j, none⟩)) w := by
  have hs : ∀ w : World, (sizeOf (Try.prog.elem 22)).run Try.prog w = .ok 1 w := fun _ => by kernel_rfl
  rw [run_indexAt_slice (P := Try.prog) w 22 _ n c .i64 (j : Int) (by kernel_rfl)]
  simp [hs, hj, Result.andThen, Addr.add_lit]
theorem wrap_nat (n : Nat) (h : n < 1000000) : IntKind.i64.wrap (n : Int) = (n : Int) := by rw [IntKind.wrap_i64]; omega

set_option maxHeartbeats 4000000 in
set_option maxRecDepth 100000 in
theorem l2enc (v : Value) (l : List Nat) (F : Nat → Nat) (gk : Nat) (w : World) (h : Rd w v l) (y : Byt l) (hl : l.length = 16) (hK : Ar w gk 5 (rowTo 176 F 176)) (hF : ∀ j, F j < 256) :
    Calls Try.prog 47 #[.slice (some ⟨gk, 0, none⟩) 176 176, v] w fun e w' => ∃ r, e = .returned r ∧ Own w' w.heap.size r (enc F l) ∧ Below w.heap.size w w' := by
  obtain ⟨i0, hi, hz0, hz1, hz2⟩ := info_parts info8
  obtain ⟨b, o, cap, rfl, hcap, hb0⟩ := h.spot (by omega)
  have HC := hid (fun i hi => h.cells i hi)
  have HL := hid hl
  have HK := hid (fun j (hj : j < 176) => show w.cell? ⟨gk, j, none⟩ = some (.int .u8 (F j : Nat)) by rw [hK.cell j (by rw [rowTo_len]; exact hj), rowTo_gt _ _ _ _ hj (Nat.le_refl _)])
  rw [hl] at hcap ⊢
  clear h hl hK
  go_enter Try.func47, Try.ntmps47
  go_wp2_with fail
  have X0 : Ar ((w.alloc (.cells #[.int .u8 0, .int .u8 0, .int .u8 0, .int .u8 0, .int .u8 0, .int .u8 0, .int .u8 0, .int .u8 0, .int .u8 0, .int .u8 0, .int .u8 0, .int .u8 0, .int .u8 0, .int .u8 0, .int .u8 0, .int .u8 0] 38)).alloc (.cells #[.int .u8 0, .int .u8 0, .int .u8 0, .int .u8 0, .int .u8 0, .int .u8 0, .int .u8 0, .int .u8 0, .int .u8 0, .int .u8 0, .int .u8 0, .int .u8 0, .int .u8 0, .int .u8 0, .int .u8 0, .int .u8 0] 38)) w.heap.size 38 (zs 16) := heap_alloc2_old w _ _
  have Y0 : Ar ((w.alloc (.cells #[.int .u8 0, .int .u8 0, .int .u8 0, .int .u8 0, .int .u8 0, .int .u8 0, .int .u8 0, .int .u8 0, .int .u8 0, .int .u8 0, .int .u8 0, .int .u8 0, .int .u8 0, .int .u8 0, .int .u8 0, .int .u8 0] 38)).alloc (.cells #[.int .u8 0, .int .u8 0, .int .u8 0, .int .u8 0, .int .u8 0, .int .u8 0, .int .u8 0, .int .u8 0, .int .u8 0, .int .u8 0, .int .u8 0, .int .u8 0, .int .u8 0, .int .u8 0, .int .u8 0, .int .u8 0] 38)) (w.heap.size + 1) 38 (zs 16) := heap_alloc2_new w _ _
  have B0 := below_alloc2 w (.cells #[.int .u8 0, .int .u8 0, .int .u8 0, .int .u8 0, .int .u8 0, .int .u8 0, .int .u8 0, .int .u8 0, .int .u8 0, .int .u8 0, .int .u8 0, .int .u8 0, .int .u8 0, .int .u8 0, .int .u8 0, .int .u8 0] 38) (.cells #[.int .u8 0, .int .u8 0, .int .u8 0, .int .u8 0, .int .u8 0, .int .u8 0, .int .u8 0, .int .u8 0, .int .u8 0, .int .u8 0, .int .u8 0, .int .u8 0, .int .u8 0, .int .u8 0, .int .u8 0, .int .u8 0] 38)
  generalize (w.alloc (.cells #[.int .u8 0, .int .u8 0, .int .u8 0, .int .u8 0, .int .u8 0, .int .u8 0, .int .u8 0, .int .u8 0, .int .u8 0, .int .u8 0, .int .u8 0, .int .u8 0, .int .u8 0, .int .u8 0, .int .u8 0, .int .u8 0] 38)).alloc (.cells #[.int .u8 0, .int .u8 0, .int .u8 0, .int .u8 0, .int .u8 0, .int .u8 0, .int .u8 0, .int .u8 0, .int .u8 0, .int .u8 0, .int .u8 0, .int .u8 0, .int .u8 0, .int .u8 0, .int .u8 0, .int .u8 0] 38) = W at *
  obtain ⟨gy, hgy⟩ : ∃ g, g = w.heap.size + 1 := ⟨_, rfl⟩
  rw [← hgy] at Y0 ⊢
  have Hgy := hid hgy
  have HF := hid hF
  have HI := hid (And.intro hi (And.intro hz0 (And.intro hz1 hz2)))
  clear hgy hF hi hz0 hz1 hz2
  go_loopw [7] (fun i ws => ∃ k : Nat, k ≤ 16 ∧ i = .int .i64 k ∧ Ar ws w.heap.size 38 (upd (stt F l 0) (zs 16) k) ∧ Ar ws gy 38 (zs 16) ∧ Below w.heap.size w ws) (fun i _ => 16 - (intOf i).toNat)
  case atStart => exact ⟨0, by omega, rfl, by rw [upd_zero]; exact X0, Y0, B0⟩
  case round =>
    obtain ⟨k, hk, rfl, X, Y, B⟩ := hrel
    clear X0 Y0 B0
    have hs : (stt F l 0).length = (zs 16).length := by rw [stt_len F l HL.out, zs_len]
    by_cases hlt : k < 16
    · have c1 := cell_kept B (HC.out k (by rw [HL.out]; exact hlt))
      have c2 := cell_kept B (HK.out k (by omega))
      have c3 : ∃ u, wr.cell? ⟨w.heap.size, k, none⟩ = some u := ⟨_, X.cell k (by rw [upd_len _ _ hs, zs_len]; exact hlt)⟩
      obtain ⟨u3, c3⟩ := c3
      have f3 := X.open k
      have e : gt (stt F l 0) k = gt l k ^^^ F k := by
        rw [stt, xl_gt _ _ _ (by rw [HL.out]; exact hlt), rkl_gt _ _ _ hlt, Nat.mul_zero, Nat.zero_add]
      have S := X.stored k (gt (stt F l 0) k)
      rw [upd_set _ _ hs k (by rw [zs_len]; exact hlt)] at S
      have SY := Y.far (g' := w.heap.size) (k := k) (.int .u8 (gt (stt F l 0) k : Nat)) (by have := Hgy.out; omega)
      have SB := B.setCell (p := ⟨w.heap.size, k, none⟩) (Nat.le_refl _) (.int .u8 (gt (stt F l 0) k : Nat))
      have y1 := gt_byt l y k
      have y2 := HF.out k
      have E : bits .xor .u8 (gt l k : Nat) (F k : Nat) = ((gt (stt F l 0) k : Nat) : Int) := by rw [xor8 _ _ y1 y2, e]
      have k0 : (0 : Int) ≤ (k : Int) := by omega
      have k1 : (k : Int) < 16 := by omega
      have I1 := idx_sl b o 16 cap k hlt
      have I2 := idx_sl gk 0 176 176 k (by omega)
      rw [Nat.zero_add] at I2
      have I3 := idx_16 w.heap.size k hlt
      replace S := hid S
      replace SY := hid SY
      replace SB := hid SB
      clear X Y B e hs
      generalize gt l k = z1 at *
      generalize F k = z2 at *
      generalize gt (stt F l 0) k = z3 at *
      go_wp2_with fail
      refine wp_region_still_tail 11 (by kernel_rfl) (by kernel_rfl) ?_
      change wpStill _ _ (World.drew _) (fun a' => wpList _ _ _ _ a' (World.drew _)) _ _
      simp only [List.take_succ_cons, List.take_zero, List.drop_succ_cons, List.drop_zero]
      repeat still_step
      refine wpStill_nil ?_
      go_wp2
      exact ⟨⟨k + 1, hlt, num_succ k, S.out.drew, SY.out.drew, SB.out.drew⟩, meas 16 k hlt⟩
    · have hk16 : k = 16 := by omega
      subst hk16
      rw [upd_end _ _ hs 16 (by rw [zs_len])] at X
      clear hk hlt hs
      rw [show ((16 : Nat) : Int) = 16 from rfl]
      have X1 := hid X
      have Y1 := hid Y
      have B1 := hid B
      obtain ⟨w1, rfl⟩ : ∃ w1, w1 = wr := ⟨_, rfl⟩
      clear X Y B
      go_wp2_with fail
      go_loopw [8, 9, 10, 11, 12] (fun s8 s9 s10 s11 s12 ws => ∃ n r : Nat, ∃ u9 u10 u11 u12 : Value, ∃ yl : List Nat, n ≤ 10 ∧ Hid (r = n + 1) ∧ s8 = .int .i64 (r : Nat) ∧ s9 = u9 ∧ s10 = u10 ∧ s11 = u11 ∧ s12 = u12 ∧ yl.length = 16 ∧ Ar ws w.heap.size 38 (stt F l n) ∧ Ar ws gy 38 yl ∧ Below w.heap.size w ws) (fun s8 _ _ _ _ _ => 12 - (intOf s8).toNat)
      case atStart => exact ⟨0, 1, _, _, _, _, zs 16, by omega, hid rfl, rfl, rfl, rfl, rfl, rfl, zs_len 16, X1.out, Y1.out, B1.out⟩
      case round =>
        obtain ⟨n, r, v9, v10, v11, v12, yl, hn, Hr, rfl, rfl, rfl, rfl, rfl, hyl, X, Y, B⟩ := hrel
        clear X1 Y1 B1
        by_cases hlt : n < 10
        · have n1 : (r : Int) ≤ 10 := by have := Hr.out; omega
          have n2 : (1 : Int) ≤ (r : Int) := by have := Hr.out; omega
          have sl := stt_len F l HL.out n
          have sb := stt_byt F HF.out l y n
          have X1 := hid X
          have Y1 := hid Y
          have B1 := hid B
          have Hyl := hid hyl
          have Hsl := hid sl
          clear X Y B hyl sl
          go_wp2_with fail
          go_loopw [9] (fun s9 ws => ∃ k : Nat, k ≤ 16 ∧ s9 = .int .i64 k ∧ Ar ws w.heap.size 38 (stt F l n) ∧ Ar ws gy 38 (upd (shl (sbl (stt F l n))) yl k) ∧ Below w.heap.size w ws) (fun s9 _ => 16 - (intOf s9).toNat)
          case atStart => exact ⟨0, by omega, rfl, X1.out, by rw [upd_zero]; exact Y1.out, B1.out⟩
          case round =>
            obtain ⟨k, hk, rfl, X, Y, B⟩ := hrel
            clear X1 Y1 B1
            have hs : (shl (sbl (stt F l n))).length = yl.length := by rw [shl_len, Hyl.out]
            by_cases hlk : k < 16
            · obtain ⟨q, hq⟩ : ∃ q, q = (k + 4 * (k % 4)) % 16 := ⟨_, rfl⟩
              have c1 := X.cell q (by rw [Hsl.out]; omega)
              have c3 : ∃ u, wr.cell? ⟨gy, k, none⟩ = some u := ⟨_, Y.cell k (by rw [upd_len _ _ hs, Hyl.out]; exact hlk)⟩
              obtain ⟨u3, c3⟩ := c3
              have f3 := Y.open k
              have e : gt (shl (sbl (stt F l n))) k = sbx (gt (stt F l n) q) := by rw [shs_gt _ Hsl.out k hlk, hq]
              have S := Y.stored k (gt (shl (sbl (stt F l n))) k)
              rw [upd_set _ _ hs k (by rw [Hyl.out]; exact hlk), e] at S
              have SX := X.far (g' := gy) (k := k) (.int .u8 (sbx (gt (stt F l n) q) : Nat)) (by have := Hgy.out; omega)
              have SB := B.setCell (p := ⟨gy, k, none⟩) (by have := Hgy.out; simp; omega) (.int .u8 (sbx (gt (stt F l n) q) : Nat))
              have y1 := gt_byt _ sb q
              have e1 : ((k : Int) + 4 * ((k : Int) % 4)) % 16 = (q : Int) := by omega
              have q1 : (q : Int) < 16 := by omega
              have q0 : (0 : Int) ≤ (q : Int) := by omega
              have k0 : (0 : Int) ≤ (k : Int) := by omega
              have k1 : (k : Int) < 16 := by omega
              replace S := hid S
              replace SX := hid SX
              replace SB := hid SB
              clear X Y B e hs hq sb
              generalize gt (stt F l n) q = z at *
              go_wp2_with fail
              refine (ssub z y1 _).mono ?_
              rintro e w' ⟨rfl, rfl⟩
              go_wp2_with fail
              exact ⟨⟨k + 1, hlk, num_succ k, SX.out, S.out, SB.out⟩, meas 16 k hlk⟩
            · have hk16 : k = 16 := by omega
              subst hk16
              rw [upd_end _ _ hs 16 (by rw [Hyl.out])] at Y
              clear hk hlk hs
              rw [show ((16 : Nat) : Int) = 16 from rfl]
              obtain ⟨YL, hYL⟩ : ∃ Y, Y = shl (sbl (stt F l n)) := ⟨_, rfl⟩
              have yb : Byt YL := by rw [hYL]; exact shl_byt _ (sbl_byt _ sb)
              have yn : YL.length = 16 := by rw [hYL, shl_len]
              rw [← hYL] at Y
              have HY := hid hYL
              have X1 := hid X
              have Y1 := hid Y
              have B1 := hid B
              have Hyn := hid yn
              obtain ⟨w2, rfl⟩ : ∃ w2, w2 = wr := ⟨_, rfl⟩
              clear X Y B hYL yn sb
              go_wp2_with fail
              go_loopw [10, 11, 12] (fun s10 s11 s12 ws => ∃ m c : Nat, ∃ u11 u12 : Value, m ≤ 4 ∧ Hid (c = 4 * m) ∧ s10 = .int .i64 (c : Nat) ∧ s11 = u11 ∧ s12 = u12 ∧ Ar ws w.heap.size 38 (upd (stt F l (n + 1)) (stt F l n) c) ∧ Ar ws gy 38 YL ∧ Below w.heap.size w ws) (fun s10 _ _ _ => 16 - (intOf s10).toNat)
              case atStart => exact ⟨0, 0, _, _, by omega, hid rfl, rfl, rfl, rfl, by rw [upd_zero]; exact X1.out, Y1.out, B1.out⟩
              case round =>
                obtain ⟨m, c, v11', v12', hm, Hc, rfl, rfl, rfl, X, Y, B⟩ := hrel
                clear X1 Y1 B1
                have hs : (stt F l (n + 1)).length = (stt F l n).length := by rw [stt_len F l HL.out, Hsl.out]
                by_cases hlm : m < 4
                · have hc := Hc.out
                  obtain ⟨c1, h1⟩ : ∃ q, q = c + 1 := ⟨_, rfl⟩
                  obtain ⟨c2, h2⟩ : ∃ q, q = c + 2 := ⟨_, rfl⟩
                  obtain ⟨c3, h3⟩ : ∃ q, q = c + 3 := ⟨_, rfl⟩
                  have d0 := Y.cell c (by rw [Hyn.out]; omega)
                  have d1 := Y.cell c1 (by rw [Hyn.out]; omega)
                  have d2 := Y.cell c2 (by rw [Hyn.out]; omega)
                  have d3 := Y.cell c3 (by rw [Hyn.out]; omega)
                  have y0 := gt_byt YL yb c
                  have y1 := gt_byt YL yb c1
                  have y2 := gt_byt YL yb c2
                  have y3 := gt_byt YL yb c3
                  obtain ⟨al, hal⟩ : ∃ a, a = ((gt YL c ^^^ gt YL c1) ^^^ gt YL c2) ^^^ gt YL c3 := ⟨_, rfl⟩
                  have E : bits .xor .u8 (bits .xor .u8 (bits .xor .u8 (gt YL c : Nat) (gt YL c1 : Nat)) (gt YL c2 : Nat)) (gt YL c3 : Nat) = (al : Int) := by
                    rw [xor8 _ _ y0 y1, xor8 _ _ (xor_lt _ _ y0 y1) y2, xor8 _ _ (xor_lt _ _ (xor_lt _ _ y0 y1) y2) y3, hal]
                  have hal2 : al < 256 := by rw [hal]; exact xor_lt _ _ (xor_lt _ _ (xor_lt _ _ y0 y1) y2) y3
                  have AL := hid (show al = ((gt YL (4 * m) ^^^ gt YL (4 * m + 1)) ^^^ gt YL (4 * m + 2)) ^^^ gt YL (4 * m + 3) by rw [hal, h1, h2, h3, hc])
                  have e1 : (c : Int) + 1 = (c1 : Int) := by omega
                  have e2 : (c : Int) + 2 = (c2 : Int) := by omega
                  have e3 : (c : Int) + 3 = (c3 : Int) := by omega
                  have p0 : (0 : Int) ≤ (c : Int) := by omega
                  have q0 : (c : Int) < 16 := by omega
                  have I0 := idx_16 gy c (by omega)
                  have I1 := idx_16 gy c1 (by omega)
                  have I2 := idx_16 gy c2 (by omega)
                  have I3 := idx_16 gy c3 (by omega)
                  have v1 := wrap_nat c1 (by omega)
                  have v2 := wrap_nat c2 (by omega)
                  have v3 := wrap_nat c3 (by omega)
                  have X1 := hid X
                  have Y1 := hid Y
                  have B1 := hid B
                  clear X Y B hal hc h1 h2 h3 hs
                  generalize gt YL c = z0 at *
                  generalize gt YL c1 = z1 at *
                  generalize gt YL c2 = z2 at *
                  generalize gt YL c3 = z3 at *
                  go_wp2_with fail
                  refine wp_region_still_lit (by kernel_rfl) (by kernel_rfl) ?_
                  change wpStill _ _ (World.drew _) _ _ _
                  repeat still_step
                  refine wpStill_nil ?_
                  have X2 := hid X1.out.drew
                  have Y2 := hid Y1.out.drew
                  have B2 := hid B1.out.drew
                  clear X1 Y1 B1 d0 d1 d2 d3 E e1 e2 e3 I0 I1 I2 I3 v1 v2 v3 y0 y1 y2 y3
                  change Exit.then _ _ _ _ (World.drew _)
                  generalize World.drew _ = x3 at *
                  go_wp2_with fail
                  go_loopw [12] (fun s12 ws => ∃ k : Nat, k ≤ 4 ∧ s12 = .int .i64 k ∧ Ar ws w.heap.size 38 (upd (stt F l (n + 1)) (stt F l n) (c + k)) ∧ Ar ws gy 38 YL ∧ Below w.heap.size w ws) (fun s12 _ => 4 - (intOf s12).toNat)
                  case atStart => exact ⟨0, by omega, rfl, X2.out, Y2.out, B2.out⟩
                  case round =>
                    obtain ⟨k, hk, rfl, X, Y, B⟩ := hrel
                    clear X2 Y2 B2
                    have hs : (stt F l (n + 1)).length = (stt F l n).length := by rw [stt_len F l HL.out, Hsl.out]
                    by_cases hlk : k < 4
                    · have hc := Hc.out
                      have hr := Hr.out
                      obtain ⟨t, ht⟩ : ∃ t, t = c + k := ⟨_, rfl⟩
                      obtain ⟨a1, ha1⟩ : ∃ a, a = 16 * r := ⟨_, rfl⟩
                      obtain ⟨a2, ha2⟩ : ∃ a, a = a1 + c := ⟨_, rfl⟩
                      obtain ⟨q, hq⟩ : ∃ q, q = a2 + k := ⟨_, rfl⟩
                      rw [← ht] at X
                      have t16 : t < 16 := by omega
                      have d1 := Y.cell t (by rw [Hyn.out]; exact t16)
                      have d2 := cell_kept B (HK.out q (by omega))
                      have d3 : ∃ u, wr.cell? ⟨w.heap.size, t, none⟩ = some u := ⟨_, X.cell t (by rw [upd_len _ _ hs, Hsl.out]; exact t16)⟩
                      obtain ⟨u3, d3⟩ := d3
                      have f3 := X.open t
                      have y1 := gt_byt YL yb t
                      have y2 := HF.out q
                      obtain ⟨v1, hv1⟩ : ∃ v, v = gt YL t ^^^ F q := ⟨_, rfl⟩
                      have E : bits .xor .u8 (gt YL t : Nat) (F q : Nat) = (v1 : Int) := by rw [xor8 _ _ y1 y2, hv1]
                      have hv2 : v1 < 256 := by rw [hv1]; exact xor_lt _ _ y1 y2
                      have e1 : (c : Int) + (k : Int) = (t : Int) := by omega
                      have e2 : 16 * (r : Int) = (a1 : Int) := by omega
                      have e3 : (a1 : Int) + (c : Int) = (a2 : Int) := by omega
                      have e4 : (a2 : Int) + (k : Int) = (q : Int) := by omega
                      have w1 := wrap_nat t (by omega)
                      have w2 := wrap_nat a1 (by omega)
                      have w3 := wrap_nat a2 (by omega)
                      have w4 := wrap_nat q (by omega)
                      have k0 : (0 : Int) ≤ (k : Int) := by omega
                      have k1 : (k : Int) < 4 := by omega
                      have I1 := idx_16 gy t t16
                      have I2 := idx_sl gk 0 176 176 q (by omega)
                      rw [Nat.zero_add] at I2
                      have I3 := idx_16 w.heap.size t t16
                      have hg := Hgy.out
                      have S1 := X.stored t v1
                      have SY1 := Y.far (g' := w.heap.size) (k := t) (.int .u8 (v1 : Nat)) (by omega)
                      have SB1 := B.setCell (p := ⟨w.heap.size, t, none⟩) (Nat.le_refl _) (.int .u8 (v1 : Nat))
                      have Ht := hid ht
                      have VQ := hid (show v1 = gt YL t ^^^ F (16 * (n + 1) + t) by rw [hv1, show 16 * (n + 1) + t = q by omega])
                      have US := hid (upd_set _ _ hs t (by rw [Hsl.out]; exact t16))
                      clear X Y B hs ht ha1 ha2 hq hc hr hg hv1
                      replace S1 := hid S1
                      replace SY1 := hid SY1
                      replace SB1 := hid SB1
                      generalize hy1 : gt YL t = z1 at *
                      have Hy1 := hid hy1
                      clear hy1
                      generalize F q = z2 at *
                      go_wp2_with fail
                      refine wp_region_still_tail 19 (by kernel_rfl) (by kernel_rfl) ?_
                      change wpStill _ _ (World.drew _) (fun a' => wpList _ _ _ _ a' (World.drew _)) _ _
                      simp only [List.take_succ_cons, List.take_zero, List.drop_succ_cons, List.drop_zero]
                      repeat still_step
                      refine wpStill_nil ?_
                      have S2 := hid S1.out.drew
                      have SY2 := hid SY1.out.drew
                      have SB2 := hid SB1.out.drew
                      by_cases h10 : n + 1 < 10
                      · have t10 : (r : Int) < 10 := by have := Hr.out; omega
                        go_wp2_with fail
                        generalize (wr.setCell ⟨w.heap.size, t, none⟩ (.int .u8 (v1 : Nat))).drew = x4 at *
                        obtain ⟨kk, hkk⟩ : ∃ j, j = (k + 1) % 4 := ⟨_, rfl⟩
                        obtain ⟨t2, ht2⟩ : ∃ j, j = c + kk := ⟨_, rfl⟩
                        have hc := Hc.out
                        have t216 : t2 < 16 := by omega
                        have g1 := S2.out.cell t (by rw [List.length_set, upd_len _ _ (by rw [stt_len F l HL.out, Hsl.out]), Hsl.out]; exact t16)
                        rw [gt_set_same _ _ _ (by rw [upd_len _ _ (by rw [stt_len F l HL.out, Hsl.out]), Hsl.out]; exact t16)] at g1
                        have g2 := SY2.out.cell t (by rw [Hyn.out]; exact t16)
                        rw [Hy1.out] at g2
                        have g3 := SY2.out.cell t2 (by rw [Hyn.out]; exact t216)
                        have y3 := gt_byt YL yb t2
                        have f4 := S2.out.open t
                        have FE := stt_mix F l YL n m k h10 HY.out yb hlm hlk
                        rw [← AL.out, ← hkk, ← hc, ← Ht.out, ← ht2, Hy1.out] at FE
                        rw [show F (16 * (n + 1) + t) = F (16 * (n + 1) + t) from rfl] at FE
                        have VQ2 := VQ.out
                        obtain ⟨m1, hm1⟩ : ∃ v, v = v1 ^^^ al := ⟨_, rfl⟩
                        obtain ⟨m2, hm2⟩ : ∃ v, v = z1 ^^^ gt YL t2 := ⟨_, rfl⟩
                        obtain ⟨v2, hv2'⟩ : ∃ v, v = gt (stt F l (n + 1)) t := ⟨_, rfl⟩
                        have E1 : bits .xor .u8 (v1 : Nat) (al : Nat) = (m1 : Int) := by rw [xor8 _ _ hv2 hal2, hm1]
                        have E2 : bits .xor .u8 (z1 : Nat) (gt YL t2 : Nat) = (m2 : Int) := by rw [xor8 _ _ y1 y3, hm2]
                        have m1l : m1 < 256 := by rw [hm1]; exact xor_lt _ _ hv2 hal2
                        have m2l : m2 < 256 := by rw [hm2]; exact xor_lt _ _ y1 y3
                        have E3 : bits .xor .u8 (m1 : Nat) (xt m2 : Nat) = (v2 : Int) := by rw [xor8 _ _ m1l (xt_lt m2), hv2', FE, hm1, hm2, VQ2]
                        have S3 := S2.out.stored t v2
                        rw [List.set_set, hv2', US.out] at S3
                        have VE := hid hv2'
                        have SY3 := SY2.out.far (g' := w.heap.size) (k := t) (.int .u8 (v2 : Nat)) (by have := Hgy.out; omega)
                        have SB3 := SB2.out.setCell (p := ⟨w.heap.size, t, none⟩) (Nat.le_refl _) (.int .u8 (v2 : Nat))
                        have J1 := idx_16 gy t2 t216
                        have b1 : ((k : Int) + 1) % 4 = (kk : Int) := by omega
                        have b2 : ((k : Int) + 1).tmod 4 = (kk : Int) := by rw [Int.tmod_eq_emod_of_nonneg (by omega)]; omega
                        have b3 : (c : Int) + (kk : Int) = (t2 : Int) := by omega
                        have b4 := wrap_nat kk (by omega)
                        have b5 := wrap_nat t2 (by omega)
                        have b6 : IntKind.i64.wrap ((k : Int) + 1) = (k : Int) + 1 := by rw [IntKind.wrap_i64]; omega
                        replace S3 := hid S3
                        replace SY3 := hid SY3
                        replace SB3 := hid SB3
                        clear FE VQ2 hm1 hm2 hv2' hc hkk ht2 h10 E d1 d2 d3 S2 SY2 SB2
                        generalize gt YL t2 = z4 at *
                        refine wp_region_still_tail 26 (by kernel_rfl) (by kernel_rfl) ?_
                        change wpStill _ _ (World.drew _) (fun a' => wpList _ _ _ _ a' (World.drew _)) _ _
                        simp only [List.take_succ_cons, List.take_zero, List.drop_succ_cons, List.drop_zero]
                        repeat still_step
                        still_call (dbl m2 m2l _)
                        repeat still_step
                        refine wpStill_nil ?_
                        go_wp2
                        refine ⟨⟨k + 1, hlk, num_succ k, ?_, SY3.out.drew, SB3.out.drew⟩, meas 4 k hlk⟩
                        rw [show c + (k + 1) = t + 1 by have := Ht.out; omega]
                        have q := S3.out.drew
                        rw [← VE.out] at q
                        exact q
                      · have t10 : ¬ (r : Int) < 10 := by have := Hr.out; omega
                        have VE := hid (show v1 = gt (stt F l (n + 1)) t by rw [VQ.out, ← Hy1.out, stt_last F l YL n t h10 HY.out t16])
                        clear h10
                        go_wp2
                        refine ⟨⟨k + 1, hlk, num_succ k, ?_, SY2.out, SB2.out⟩, meas 4 k hlk⟩
                        have q := S2.out
                        rw [VE.out, US.out] at q
                        rw [show c + (k + 1) = t + 1 by have := Ht.out; omega, VE.out]
                        exact q
                    · have hk4 : k = 4 := by omega
                      subst hk4
                      have hc := Hc.out
                      have CE := hid (show c + 4 = 4 * (m + 1) by omega)
                      clear hc hk hlk hs
                      go_wp2
                      refine ⟨⟨m + 1, c + 4, _, _, hlm, CE, rfl, rfl, rfl, X, Y, B⟩, ?_⟩
                      have hc := Hc.out
                      simp [intOf]
                      omega
                · have hm4 : m = 4 := by omega
                  subst hm4
                  have hc := Hc.out
                  rw [upd_end _ _ hs c (by rw [Hsl.out]; omega)] at X
                  have c16 : ¬ (c : Int) < 16 := by omega
                  clear hc hs
                  go_wp2
                  refine ⟨⟨n + 1, r + 1, _, _, _, _, YL, hlt, hid (by rw [Hr.out]), num_succ r, rfl, rfl, rfl, rfl, Hyn.out, X, Y, B⟩, ?_⟩
                  have hr := Hr.out
                  simp [intOf]
                  omega
        · have hn10 : n = 10 := by omega
          subst hn10
          have r11 : ¬ (r : Int) ≤ 10 := by have := Hr.out; omega
          have hO0 := own_lit0 wr
          obtain ⟨hi, hz0, hz1, hz2⟩ := HI.out
          have X1 := X.alloc (.cells #[] 5)
          have B1 := B.alloc B.size (.cells #[] 5)
          have sl := stt_len F l HL.out 10
          have HN : Hid (∀ j u, ((stt F l 10).map bv)[j]? = some u → (wr.alloc (.cells #[] 5)).cell? ((⟨w.heap.size, 0, none⟩ : Addr).add j) = some u) := fun j u hj => by
            have hj' : j < (stt F l 10).length := by
              rcases Nat.lt_or_ge j (stt F l 10).length with q | q
              · exact q
              · rw [List.getElem?_eq_none (by simpa using q)] at hj; cases hj
            rw [List.getElem?_map, List.getElem?_eq_getElem hj'] at hj
            cases hj
            rw [Addr.add_lit, Nat.zero_add, X1.cell j hj', gt_eq _ j hj']
            rfl
          have H1 : Hid (∀ u ∈ (stt F l 10).map bv, u.oneCell' = true) := fun u hu => by
            obtain ⟨x, _, rfl⟩ := List.mem_map.1 hu
            rfl
          have HS := hid sl
          have HB := hid B
          have HB1 := hid B1
          clear sl X1 B1 X Y B
          go_wp2_with (at_builtin; refine wpList_append_own _ rfl _ _ _ rfl wr.heap.size 5 i0 (.int .u8 0) 1 1 Try.underlying22 hi hz0 hz1 hz2 rfl (by omega) _ _ _ rfl hO0 ⟨w.heap.size, 0, none⟩ 16 16 ((stt F l 10).map bv) rfl (by simp [HS.out]) HN.out H1.out (by unfold maxLen; simp) (by simp) (by simp) ?_; intro v' w1 hown1 hgrow1 _)
          have hO1 : Own w1 wr.heap.size v' (enc F l) := by
            unfold Own enc
            rw [HS.out]
            simpa using hown1
          have hB1 : Below w.heap.size w w1 := HB1.out.grown hgrow1 (by have := HB.out.size; simp; omega) (fun x e => by have q : wr.heap.size = x := Option.some.inj e; rw [← q]; exact HB.out.size)
          have hO2 := hO1.mono (base' := w.heap.size) HB.out.size
          clear hown1 hgrow1 hO0 hO1 hi hz0 hz1 hz2
          go_wp2
          go_ret
          exact ⟨v', rfl, hO2, hB1⟩
end Go.Proofs.Ytflnhjbanlpjiai.W

namespace Go.Proofs.Ytflnhjbanlpjiai.M
open Go.RowKit

/-- Two halves of a block: the first eight bytes as a number, and the last eight. -/
def gx (p : Nat × Nat) : Nat × Nat := (p.1 / 2 ^^^ (if p.2 % 2 = 1 then 16212958658533785600 else 0), p.2 / 2 ^^^ (if p.1 % 2 = 1 then 9223372036854775808 else 0))
def ga (p q : Nat × Nat) : Nat × Nat := (p.1 ^^^ q.1, p.2 ^^^ q.2)
def g0 : Nat × Nat := (0, 0)
/-- Both are numbers of 64 bits. -/
def G64 (p : Nat × Nat) : Prop := p.1 < 18446744073709551616 ∧ p.2 < 18446744073709551616
theorem xlt64 (a b : Nat) (ha : a < 18446744073709551616) (hb : b < 18446744073709551616) : a ^^^ b < 18446744073709551616 := Nat.xor_lt_two_pow (n := 64) ha hb
theorem ga_64 {p q : Nat × Nat} (hp : G64 p) (hq : G64 q) : G64 (ga p q) := ⟨xlt64 _ _ hp.1 hq.1, xlt64 _ _ hp.2 hq.2⟩
theorem gx_64 {p : Nat × Nat} (hp : G64 p) : G64 (gx p) := by
  have h1 := hp.1
  have h2 := hp.2
  refine ⟨xlt64 _ _ (by omega) ?_, xlt64 _ _ (by omega) ?_⟩ <;> split <;> decide
theorem ga_comm (p q : Nat × Nat) : ga p q = ga q p := by simp [ga, Nat.xor_comm]
theorem ga_assoc (p q r : Nat × Nat) : ga (ga p q) r = ga p (ga q r) := by simp [ga, Nat.xor_assoc]
theorem ga_0 (p : Nat × Nat) : ga p g0 = p := by simp [ga, g0]
theorem ga_0' (p : Nat × Nat) : ga g0 p = p := by simp [ga, g0]
theorem ga_self (p : Nat × Nat) : ga p p = g0 := by simp [ga, g0]
theorem ga_four (a b c d : Nat × Nat) : ga (ga a b) (ga c d) = ga (ga a c) (ga b d) := by
  rw [ga_assoc, ga_assoc, ← ga_assoc b c d, ga_comm b c, ga_assoc c b d]
theorem xor_half (a b : Nat) : (a ^^^ b) / 2 = a / 2 ^^^ b / 2 := by
  have h := Nat.shiftRight_xor_distrib (a := a) (b := b) (i := 1)
  simpa [Nat.shiftRight_eq_div_pow] using h
theorem xor_odd (a b : Nat) : (a ^^^ b) % 2 = (a % 2 + b % 2) % 2 := by
  have h := Nat.xor_mod_two_pow (a := a) (b := b) (n := 1)
  rw [Nat.pow_one] at h
  rw [h]
  rcases Nat.mod_two_eq_zero_or_one a with h1 | h1 <;> rcases Nat.mod_two_eq_zero_or_one b with h2 | h2 <;> rw [h1, h2] <;> rfl
theorem if_xor (a b c : Nat) : (if (a ^^^ b) % 2 = 1 then c else 0) = (if a % 2 = 1 then c else 0) ^^^ (if b % 2 = 1 then c else 0) := by
  have h := xor_odd a b
  by_cases h1 : a % 2 = 1 <;> by_cases h2 : b % 2 = 1
  · rw [if_neg (by omega), if_pos h1, if_pos h2, Nat.xor_self]
  · rw [if_pos (by omega), if_pos h1, if_neg h2, Nat.xor_zero]
  · rw [if_pos (by omega), if_neg h1, if_pos h2, Nat.zero_xor]
  · rw [if_neg (by omega), if_neg h1, if_neg h2, Nat.xor_zero]
theorem xor_four (a b c d : Nat) : (a ^^^ b) ^^^ (c ^^^ d) = (a ^^^ c) ^^^ (b ^^^ d) := by
  rw [Nat.xor_assoc, Nat.xor_assoc, ← Nat.xor_assoc b c d, Nat.xor_comm b c, Nat.xor_assoc c b d]
theorem gx_ga (p q : Nat × Nat) : gx (ga p q) = ga (gx p) (gx q) := by
  obtain ⟨a, b⟩ := p
  obtain ⟨c, d⟩ := q
  show ((a ^^^ c) / 2 ^^^ (if (b ^^^ d) % 2 = 1 then 16212958658533785600 else 0), (b ^^^ d) / 2 ^^^ (if (a ^^^ c) % 2 = 1 then 9223372036854775808 else 0)) = ((a / 2 ^^^ (if b % 2 = 1 then 16212958658533785600 else 0)) ^^^ (c / 2 ^^^ (if d % 2 = 1 then 16212958658533785600 else 0)), (b / 2 ^^^ (if a % 2 = 1 then 9223372036854775808 else 0)) ^^^ (d / 2 ^^^ (if c % 2 = 1 then 9223372036854775808 else 0)))
  rw [xor_half, xor_half, if_xor, if_xor, xor_four, xor_four (b / 2)]
theorem gx_g0 : gx g0 = g0 := by decide
def gxN (c : Nat × Nat) : Nat → Nat × Nat
  | 0 => c
  | n + 1 => gx (gxN c n)
theorem gxN_64 {c : Nat × Nat} (h : G64 c) : ∀ n, G64 (gxN c n)
  | 0 => h
  | n + 1 => gx_64 (gxN_64 h n)
theorem gxN_gx (c : Nat × Nat) : ∀ n, gxN (gx c) n = gx (gxN c n)
  | 0 => rfl
  | n + 1 => by rw [gxN, gxN_gx c n]; rfl
theorem gxN_ga (p q : Nat × Nat) : ∀ n, gxN (ga p q) n = ga (gxN p n) (gxN q n)
  | 0 => rfl
  | n + 1 => by rw [gxN, gxN_ga p q n, gx_ga]; rfl
/-- The sum of the first n multiples of c. -/
def gs (f : Nat → Bool) (c : Nat × Nat) : Nat → Nat × Nat
  | 0 => g0
  | n + 1 => if f n then ga (gs f c n) (gxN c n) else gs f c n
theorem gs_yes (f : Nat → Bool) (c : Nat × Nat) (n : Nat) (h : f n = true) : gs f c (n + 1) = ga (gs f c n) (gxN c n) := by rw [gs, if_pos h]
theorem gs_no (f : Nat → Bool) (c : Nat × Nat) (n : Nat) (h : f n = false) : gs f c (n + 1) = gs f c n := by rw [gs, if_neg (by simp [h])]
theorem gs_64 (f : Nat → Bool) {c : Nat × Nat} (h : G64 c) : ∀ n, G64 (gs f c n)
  | 0 => ⟨by show (0 : Nat) < _; decide, by show (0 : Nat) < _; decide⟩
  | n + 1 => by
    unfold gs
    split
    · exact ga_64 (gs_64 f h n) (gxN_64 h n)
    · exact gs_64 f h n
theorem gs_ga (f : Nat → Bool) (p q : Nat × Nat) : ∀ n, gs f (ga p q) n = ga (gs f p n) (gs f q n)
  | 0 => (ga_0 g0).symm
  | n + 1 => by
    unfold gs
    split
    · rw [gs_ga f p q n, gxN_ga, ga_four]
    · exact gs_ga f p q n
theorem gs_gx (f : Nat → Bool) (c : Nat × Nat) : ∀ n, gs f (gx c) n = gx (gs f c n)
  | 0 => gx_g0.symm
  | n + 1 => by
    unfold gs
    split
    · rw [gs_gx f c n, gxN_gx, gx_ga]
    · exact gs_gx f c n
theorem gs_gxN (f : Nat → Bool) (c : Nat × Nat) (m : Nat) : ∀ n, gs f (gxN c n) m = gxN (gs f c m) n
  | 0 => rfl
  | n + 1 => by rw [gxN, gs_gx, gs_gxN f c m n]; rfl
theorem gs_g0 (f : Nat → Bool) : ∀ n, gs f g0 n = g0
  | 0 => rfl
  | n + 1 => by
    have e : ∀ n, gxN g0 n = g0 := fun n => by induction n with | zero => rfl | succ n ih => rw [gxN, ih, gx_g0]
    unfold gs
    split
    · rw [gs_g0 f n, e, ga_0]
    · exact gs_g0 f n
theorem gs_gs (f g : Nat → Bool) (c : Nat × Nat) (m : Nat) : ∀ n, gs f (gs g c n) m = gs g (gs f c m) n
  | 0 => gs_g0 f m
  | n + 1 => by
    rw [gs, gs]
    split
    · rw [gs_ga, gs_gs f g c m n, gs_gxN]
    · exact gs_gs f g c m n
/-- The factor of a power. -/
def fb (p : Nat × Nat) (i : Nat) : Bool := if i < 64 then p.1.testBit (63 - i) else p.2.testBit (127 - i)
def ge : Nat × Nat := (9223372036854775808, 0)
theorem gxN_ge : ∀ i, i < 128 → gxN ge i = if i < 64 then (2 ^ (63 - i), 0) else (0, 2 ^ (127 - i)) := by decide +kernel
/-- The upper bits of a number, n of 64. -/
theorem top_lo (p : Nat × Nat) : ∀ n, n ≤ 64 → (gs (fb p) ge n).2 = 0 ∧ ∀ k, (gs (fb p) ge n).1.testBit k = (decide (k < 64 ∧ 63 - k < n) && p.1.testBit k)
  | 0, _ => ⟨rfl, fun k => by simp [gs, g0]⟩
  | n + 1, h => by
    obtain ⟨h1, h2⟩ := top_lo p n (by omega)
    have e := gxN_ge n (by omega)
    rw [if_pos (by omega)] at e
    have hf : fb p n = p.1.testBit (63 - n) := by rw [fb, if_pos (by omega)]
    by_cases hb : fb p n = true
    · rw [gs_yes _ _ _ hb, e]
      refine ⟨by simp [ga, h1], fun k => ?_⟩
      simp only [ga, Nat.testBit_xor, h2 k, Nat.testBit_two_pow]
      rw [hf] at hb
      by_cases hk : 63 - n = k
      · subst hk
        have h3 : ¬ 63 - (63 - n) < n := by omega
        have h4 : 63 - (63 - n) < n + 1 := by omega
        simp [hb, h3, h4]; omega
      · by_cases hk2 : k < 64 ∧ 63 - k < n
        · simp [hk, hk2, show 63 - k < n + 1 by omega]
        · have hk3 : ¬ (k < 64 ∧ 63 - k < n + 1) := by omega
          simp [hk, hk2, hk3]
    · have hb : fb p n = false := by simpa using hb
      rw [gs_no _ _ _ hb]
      refine ⟨h1, fun k => ?_⟩
      rw [h2 k]
      rw [hf] at hb
      by_cases hk : 63 - n = k
      · subst hk
        simp [hb]
      · have e2 : (k < 64 ∧ 63 - k < n) ↔ (k < 64 ∧ 63 - k < n + 1) := by omega
        simp [e2]
theorem top_hi (p : Nat × Nat) (hp : G64 p) : ∀ n, n ≤ 64 → (gs (fb p) ge (64 + n)).1 = p.1 ∧ ∀ k, (gs (fb p) ge (64 + n)).2.testBit k = (decide (k < 64 ∧ 63 - k < n) && p.2.testBit k)
  | 0, _ => by
    obtain ⟨h1, h2⟩ := top_lo p 64 (by omega)
    refine ⟨?_, fun k => by rw [Nat.add_zero, h1]; simp⟩
    apply Nat.eq_of_testBit_eq
    intro k
    rw [Nat.add_zero, h2 k]
    by_cases hk : k < 64
    · simp [hk]; omega
    · have := Nat.testBit_lt_two_pow (x := p.1) (i := k) (Nat.lt_of_lt_of_le hp.1 (Nat.pow_le_pow_right (n := 2) (i := 64) (by omega) (by omega)))
      simp [hk, this]
  | n + 1, h => by
    obtain ⟨h1, h2⟩ := top_hi p hp n (by omega)
    have e := gxN_ge (64 + n) (by omega)
    rw [if_neg (by omega), show 127 - (64 + n) = 63 - n by omega] at e
    have hf : fb p (64 + n) = p.2.testBit (63 - n) := by rw [fb, if_neg (by omega), show 127 - (64 + n) = 63 - n by omega]
    by_cases hb : fb p (64 + n) = true
    · rw [← Nat.add_assoc, gs_yes _ _ _ hb, e]
      refine ⟨by simp [ga, h1], fun k => ?_⟩
      simp only [ga, Nat.testBit_xor, h2 k, Nat.testBit_two_pow]
      rw [hf] at hb
      by_cases hk : 63 - n = k
      · subst hk
        have h3 : ¬ 63 - (63 - n) < n := by omega
        have h4 : 63 - (63 - n) < n + 1 := by omega
        simp [hb, h3, h4]; omega
      · by_cases hk2 : k < 64 ∧ 63 - k < n
        · simp [hk, hk2, show 63 - k < n + 1 by omega]
        · have hk3 : ¬ (k < 64 ∧ 63 - k < n + 1) := by omega
          simp [hk, hk2, hk3]
    · have hb : fb p (64 + n) = false := by simpa using hb
      rw [← Nat.add_assoc, gs_no _ _ _ hb]
      refine ⟨h1, fun k => ?_⟩
      rw [h2 k]
      rw [hf] at hb
      by_cases hk : 63 - n = k
      · subst hk
        simp [hb]
      · have e2 : (k < 64 ∧ 63 - k < n) ↔ (k < 64 ∧ 63 - k < n + 1) := by omega
        simp [e2]
theorem gs_ge (p : Nat × Nat) (hp : G64 p) : gs (fb p) ge 128 = p := by
  obtain ⟨h1, h2⟩ := top_hi p hp 64 (by omega)
  refine Prod.ext h1 ?_
  apply Nat.eq_of_testBit_eq
  intro k
  rw [h2 k]
  by_cases hk : k < 64
  · simp [hk]; omega
  · have := Nat.testBit_lt_two_pow (x := p.2) (i := k) (Nat.lt_of_lt_of_le hp.2 (Nat.pow_le_pow_right (n := 2) (i := 64) (by omega) (by omega)))
    simp [hk, this]
/-- The product of two. -/
def gmul (p q : Nat × Nat) : Nat × Nat := gs (fb p) q 128
theorem gmul_64 (p : Nat × Nat) {q : Nat × Nat} (h : G64 q) : G64 (gmul p q) := gs_64 _ h _
theorem gmul_comm (p q : Nat × Nat) (hp : G64 p) (hq : G64 q) : gmul p q = gmul q p := by
  have e1 := gs_ge p hp
  have e2 := gs_ge q hq
  have h := gs_gs (fb p) (fb q) ge 128 128
  rw [e1, e2] at h
  exact h
theorem gmul_ge (p : Nat × Nat) (hp : G64 p) : gmul ge p = p := by rw [gmul_comm _ _ ⟨by decide, by decide⟩ hp]; exact gs_ge p hp
theorem gmul_ga (p q r : Nat × Nat) : gmul p (ga q r) = ga (gmul p q) (gmul p r) := gs_ga _ _ _ _
theorem gmul_ga' (p q r : Nat × Nat) (hp : G64 p) (hq : G64 q) (hr : G64 r) : gmul (ga p q) r = ga (gmul p r) (gmul q r) := by
  rw [gmul_comm _ _ (ga_64 hp hq) hr, gmul_ga, gmul_comm _ _ hr hp, gmul_comm _ _ hr hq]
/-- k bytes from o on, as one number. -/
def hfN (l : List Nat) (o : Nat) : Nat → Nat
  | 0 => 0
  | k + 1 => hfN l o k * 256 + gt l (o + k)
theorem hfN_lt (l : List Nat) (y : Byt l) (o : Nat) : ∀ k, hfN l o k < 256 ^ k
  | 0 => by simp [hfN]
  | k + 1 => by
    have h1 := hfN_lt l y o k
    have h2 := gt_byt l y (o + k)
    rw [hfN, Nat.pow_succ]
    omega
theorem hf_lt (l : List Nat) (y : Byt l) (o : Nat) : hfN l o 8 < 18446744073709551616 := hfN_lt l y o 8
theorem hf_small (l : List Nat) (y : Byt l) (o n : Nat) (hn : n < 8) : hfN l o n < 72057594037927936 := by
  have h := hfN_lt l y o n
  have h2 : (256 : Nat) ^ n ≤ 256 ^ 7 := Nat.pow_le_pow_right (by omega) (by omega)
  have h3 : (256 : Nat) ^ 7 = 72057594037927936 := by decide
  omega
def elt (l : List Nat) : Nat × Nat := (hfN l 0 8, hfN l 8 8)
theorem elt_64 (l : List Nat) (y : Byt l) : G64 (elt l) := ⟨hf_lt l y 0, hf_lt l y 8⟩
theorem bit_mul (n b k : Nat) (hb : b < 256) : (n * 256 + b).testBit k = if k < 8 then b.testBit k else n.testBit (k - 8) := by
  have h := Nat.testBit_two_pow_mul_add (a := n) (b := b) (i := 8) hb k
  rw [Nat.mul_comm n 256]
  exact h
theorem hfN_bit (l : List Nat) (y : Byt l) (o : Nat) : ∀ k i, i < 8 * k → (hfN l o k).testBit (8 * k - 1 - i) = (gt l (o + i / 8)).testBit (7 - i % 8)
  | 0, i, h => by omega
  | k + 1, i, h => by
    rw [hfN, bit_mul _ _ _ (gt_byt l y (o + k))]
    by_cases hi : i < 8 * k
    · rw [if_neg (by omega), ← hfN_bit l y o k i hi, show 8 * (k + 1) - 1 - i - 8 = 8 * k - 1 - i by omega]
    · rw [if_pos (by omega), show i / 8 = k by omega, show 8 * (k + 1) - 1 - i = 7 - i % 8 by omega]
theorem fb_elt (l : List Nat) (y : Byt l) (i : Nat) (hi : i < 128) : fb (elt l) i = (gt l (i / 8)).testBit (7 - i % 8) := by
  unfold fb elt
  by_cases h : i < 64
  · rw [if_pos h]
    have q := hfN_bit l y 0 8 i (by omega)
    rw [Nat.zero_add] at q
    exact q
  · rw [if_neg h]
    have q := hfN_bit l y 8 8 (i - 64) (by omega)
    show (hfN l 8 8).testBit (127 - i) = _
    rw [show 8 * 8 - 1 - (i - 64) = 127 - i by omega, show 8 + (i - 64) / 8 = i / 8 by omega, show (i - 64) % 8 = i % 8 by omega] at q
    exact q
theorem tb_eq (a k : Nat) : (a.testBit k = true) ↔ a / 2 ^ k % 2 = 1 := by
  rw [Nat.testBit_eq_decide_div_mod_eq, decide_eq_true_iff]
/-- Two numbers as sixteen bytes. -/
def eb (p : Nat × Nat) : List Nat := (List.range 16).map fun i => if i < 8 then p.1 / 256 ^ (7 - i) % 256 else p.2 / 256 ^ (15 - i) % 256
theorem eb_len (p : Nat × Nat) : (eb p).length = 16 := by simp [eb]
theorem eb_gt (p : Nat × Nat) (i : Nat) (h : i < 16) : gt (eb p) i = if i < 8 then p.1 / 256 ^ (7 - i) % 256 else p.2 / 256 ^ (15 - i) % 256 := by
  rw [gt_eq _ _ (by rw [eb_len]; exact h)]
  simp [eb]
theorem eb_byt (p : Nat × Nat) : Byt (eb p) := by
  intro x hx
  simp only [eb, List.mem_map] at hx
  obtain ⟨i, _, rfl⟩ := hx
  split <;> omega
theorem hfN_div (l : List Nat) (y : Byt l) (o : Nat) : ∀ k j, j < k → hfN l o k / 256 ^ (k - 1 - j) % 256 = gt l (o + j)
  | 0, j, h => by omega
  | k + 1, j, h => by
    have h2 := gt_byt l y (o + k)
    by_cases hj : j = k
    · subst hj
      rw [hfN, show j + 1 - 1 - j = 0 by omega, Nat.pow_zero, Nat.div_one]
      omega
    · have q := hfN_div l y o k j (by omega)
      rw [hfN, show k + 1 - 1 - j = (k - 1 - j) + 1 by omega, Nat.pow_succ, Nat.mul_comm (256 ^ _) 256, ← Nat.div_div_eq_div_mul, show (hfN l o k * 256 + gt l (o + k)) / 256 = hfN l o k by omega]
      exact q
theorem gt_ext {a b : List Nat} (hl : a.length = b.length) (h : ∀ i, i < a.length → gt a i = gt b i) : a = b := by
  apply List.ext_getElem hl
  intro i h1 h2
  have q := h i h1
  rw [gt_eq a i h1, gt_eq b i h2] at q
  exact q
theorem eb_elt (l : List Nat) (y : Byt l) (hl : l.length = 16) : eb (elt l) = l := by
  refine gt_ext (by rw [eb_len, hl]) fun i hi => ?_
  rw [eb_len] at hi
  rw [eb_gt _ _ hi]
  by_cases h : i < 8
  · rw [if_pos h]
    have q := hfN_div l y 0 8 i h
    rw [Nat.zero_add] at q
    exact q
  · rw [if_neg h]
    have q := hfN_div l y 8 8 (i - 8) (by omega)
    rw [show 8 - 1 - (i - 8) = 15 - i by omega, show 8 + (i - 8) = i by omega] at q
    exact q
theorem num_hi (n k : Nat) : n / 256 ^ k = n / 256 ^ (k + 1) * 256 + n / 256 ^ k % 256 := by
  rw [Nat.pow_succ, ← Nat.div_div_eq_div_mul]
  omega
theorem hfN_num (l : List Nat) (o n m : Nat) (h : ∀ i, i < m → gt l (o + i) = n / 256 ^ (m - 1 - i) % 256) : ∀ k, k ≤ m → hfN l o k = n / 256 ^ (m - k) % 256 ^ k
  | 0, _ => by simp [hfN, Nat.mod_one]
  | k + 1, hk => by
    rw [hfN, hfN_num l o n m h k (by omega), h k (by omega), show m - 1 - k = m - (k + 1) by omega, show m - k = m - (k + 1) + 1 by omega, Nat.pow_succ 256 (m - (k + 1)), ← Nat.div_div_eq_div_mul, Nat.pow_succ]
    generalize n / 256 ^ (m - (k + 1)) = x
    rw [Nat.mul_comm (256 ^ k) 256, Nat.mod_mul]
    omega
theorem elt_eb (p : Nat × Nat) (hp : G64 p) : elt (eb p) = p := by
  refine Prod.ext ?_ ?_
  · have h := hfN_num (eb p) 0 p.1 8 (fun i hi => by rw [Nat.zero_add, eb_gt _ _ (by omega), if_pos hi]) 8 (by omega)
    have h1 := hp.1
    show hfN (eb p) 0 8 = p.1
    rw [h, Nat.sub_self, Nat.pow_zero, Nat.div_one, Nat.mod_eq_of_lt h1]
  · have h := hfN_num (eb p) 8 p.2 8 (fun i hi => by rw [eb_gt _ _ (by omega), if_neg (by omega), show 15 - (8 + i) = 8 - 1 - i by omega]) 8 (by omega)
    have h1 := hp.2
    show hfN (eb p) 8 8 = p.2
    rw [h, Nat.sub_self, Nat.pow_zero, Nat.div_one, Nat.mod_eq_of_lt h1]
theorem xor_join (a b c d : Nat) (hc : c < 256) (hd : d < 256) : (a * 256 + c) ^^^ (b * 256 + d) = (a ^^^ b) * 256 + (c ^^^ d) := by
  apply Nat.eq_of_testBit_eq
  intro k
  rw [Nat.testBit_xor, bit_mul _ _ _ hc, bit_mul _ _ _ hd, bit_mul _ _ _ (Nat.xor_lt_two_pow (n := 8) hc hd)]
  split <;> rw [Nat.testBit_xor]
theorem hfN_xl (a b : List Nat) (ya : Byt a) (yb : Byt b) (hl : a.length = b.length) (o : Nat) : ∀ k, o + k ≤ a.length → hfN (xl a b) o k = hfN a o k ^^^ hfN b o k
  | 0, _ => by simp [hfN]
  | k + 1, h => by
    have e : gt (xl a b) (o + k) = gt a (o + k) ^^^ gt b (o + k) := by
      rw [gt_eq _ _ (by rw [xl_len]; omega), xl_at a b _ (by rw [xl_len]; omega) (by omega) (by omega), gt_eq a _ (by omega), gt_eq b _ (by omega)]
    rw [hfN, hfN, hfN, hfN_xl a b ya yb hl o k (by omega), e, xor_join _ _ _ _ (gt_byt a ya _) (gt_byt b yb _)]
theorem elt_xl (a b : List Nat) (ya : Byt a) (yb : Byt b) (ha : a.length = 16) (hb : b.length = 16) : elt (xl a b) = ga (elt a) (elt b) :=
  Prod.ext (hfN_xl a b ya yb (by omega) 0 8 (by omega)) (hfN_xl a b ya yb (by omega) 8 8 (by omega))
theorem xlb_byt (a b : List Nat) (ya : Byt a) (yb : Byt b) (hl : a.length = b.length) : Byt (xl a b) := by
  intro x hx
  obtain ⟨i, hi, rfl⟩ := List.getElem_of_mem hx
  rw [xl_len] at hi
  rw [xl_at a b i (by rw [xl_len]; exact hi) hi (by omega)]
  exact xor_lt _ _ (ya.at i hi) (yb.at i (by omega))
theorem eb_ga (p q : Nat × Nat) (hp : G64 p) (hq : G64 q) : eb (ga p q) = xl (eb p) (eb q) := by
  have h := elt_xl (eb p) (eb q) (eb_byt p) (eb_byt q) (eb_len p) (eb_len q)
  rw [elt_eb p hp, elt_eb q hq] at h
  rw [← h, eb_elt _ (xlb_byt _ _ (eb_byt p) (eb_byt q) (by rw [eb_len, eb_len])) (by rw [xl_len, eb_len])]
/-- The product of two blocks. -/
def gtm (a b : List Nat) : List Nat := eb (gmul (elt a) (elt b))
theorem gtm_len (a b : List Nat) : (gtm a b).length = 16 := eb_len _
theorem gtm_byt (a b : List Nat) : Byt (gtm a b) := eb_byt _
theorem gtm_comm (a b : List Nat) (ya : Byt a) (yb : Byt b) : gtm a b = gtm b a := by rw [gtm, gmul_comm _ _ (elt_64 a ya) (elt_64 b yb)]; rfl
/-- The last k bytes of both halves. -/
def rk (F : Nat → Nat) (k : Nat) : List Nat := (List.range 16).map fun i => if (8 - k ≤ i ∧ i < 8) ∨ 16 - k ≤ i then F i else 0
theorem rk_len (F : Nat → Nat) (k : Nat) : (rk F k).length = 16 := by simp [rk]
theorem rk_zero (F : Nat → Nat) : rk F 0 = zs 16 := rfl
theorem rk_set (F : Nat → Nat) (k t s : Nat) (hk : k < 8) (ht : t + k = 7) (hs : s = 8 + t) : ((rk F k).set t (F t)).set s (F s) = rk F (k + 1) := by
  subst hs
  match k, hk with
  | 0, _ => obtain rfl : t = 7 := by omega
            rfl
  | 1, _ => obtain rfl : t = 6 := by omega
            rfl
  | 2, _ => obtain rfl : t = 5 := by omega
            rfl
  | 3, _ => obtain rfl : t = 4 := by omega
            rfl
  | 4, _ => obtain rfl : t = 3 := by omega
            rfl
  | 5, _ => obtain rfl : t = 2 := by omega
            rfl
  | 6, _ => obtain rfl : t = 1 := by omega
            rfl
  | 7, _ => obtain rfl : t = 0 := by omega
            rfl
theorem rk_end (p : Nat × Nat) : rk (gt (eb p)) 8 = eb p := by
  refine gt_ext (by rw [rk_len, eb_len]) fun i hi => ?_
  rw [rk_len] at hi
  rw [gt_eq (rk _ _) i (by rw [rk_len]; exact hi)]
  simp only [rk, List.getElem_map, List.getElem_range]
  rw [if_pos (by omega)]
theorem eb_lo (p : Nat × Nat) (k t : Nat) (hk : k < 8) (ht : t + k = 7) : gt (eb p) t = p.1 / 256 ^ k % 256 := by
  rw [eb_gt _ _ (by omega), if_pos (by omega), show 7 - t = k by omega]
theorem eb_hi (p : Nat × Nat) (k t s : Nat) (hk : k < 8) (ht : t + k = 7) (hs : s = 8 + t) : gt (eb p) s = p.2 / 256 ^ k % 256 := by
  rw [eb_gt _ _ (by omega), if_neg (by omega), show 15 - s = k by omega]
theorem i64_eq {a b : Int} (h : a = b) : Value.int .i64 a = .int .i64 b := by rw [h]
theorem pow_step (a k : Nat) : a / 256 ^ k / 256 = a / 256 ^ (k + 1) := by rw [Nat.div_div_eq_div_mul, Nat.pow_succ]
end Go.Proofs.Ytflnhjbanlpjiai.M

namespace Go.Proofs.Ytflnhjbanlpjiai.M
open Go.RowKit

theorem eb_g0 : eb g0 = List.replicate 16 0 := by decide
theorem xg_gt (a b : List Nat) (i : Nat) (ha : i < a.length) : gt (xl a b) i = gt a i ^^^ gt b i := by
  rw [gt_eq _ i (by rw [xl_len]; exact ha)]
  simp [xl, gt]
/-- The sum over the first n blocks. -/
def hsh (h : Nat × Nat) (d : List Nat) : Nat → Nat × Nat
  | 0 => g0
  | n + 1 => gmul (ga (hsh h d n) (elt (sub d (16 * n) 16))) h
theorem sub_byt (l : List Nat) (y : Byt l) (o n : Nat) : Byt (sub l o n) := fun x hx => y x (List.mem_of_mem_drop (List.mem_of_mem_take hx))
theorem hsh_64 (h : Nat × Nat) (hh : G64 h) (d : List Nat) : ∀ n, G64 (hsh h d n)
  | 0 => ⟨by show (0 : Nat) < _; decide, by show (0 : Nat) < _; decide⟩
  | _ + 1 => gmul_64 _ hh
theorem hsh_ga (h : Nat × Nat) (hh : G64 h) (a b : List Nat) (ya : Byt a) (yb : Byt b) (hl : a.length = b.length) : ∀ n, 16 * n ≤ a.length → hsh h (xl a b) n = ga (hsh h a n) (hsh h b n)
  | 0, _ => (ga_0 g0).symm
  | n + 1, hn => by
    have e : sub (xl a b) (16 * n) 16 = xl (sub a (16 * n) 16) (sub b (16 * n) 16) := by
      have l1 : (sub (xl a b) (16 * n) 16).length = 16 := sub_len _ _ _ (by rw [xl_len]; omega)
      have l2 : (sub a (16 * n) 16).length = 16 := sub_len _ _ _ (by omega)
      refine gt_ext (by rw [l1, xl_len, l2]) fun i hi => ?_
      rw [l1] at hi
      rw [sub_gt _ _ _ _ hi, xg_gt _ _ _ (by omega), xg_gt _ _ _ (by omega), sub_gt _ _ _ _ hi, sub_gt _ _ _ _ hi]
    rw [hsh, hsh, hsh, hsh_ga h hh a b ya yb hl n (by omega), e, elt_xl _ _ (sub_byt a ya _ _) (sub_byt b yb _ _) (sub_len _ _ _ (by omega)) (sub_len _ _ _ (by omega)), ga_four, gmul_ga' _ _ _ (ga_64 (hsh_64 h hh a n) (elt_64 _ (sub_byt a ya _ _))) (ga_64 (hsh_64 h hh b n) (elt_64 _ (sub_byt b yb _ _))) hh]
/-- The hash of data, as bytes. -/
def hshB (h d : List Nat) : List Nat := eb (hsh (elt h) d (d.length / 16))
theorem hshB_len (h d : List Nat) : (hshB h d).length = 16 := eb_len _
theorem hshB_byt (h d : List Nat) : Byt (hshB h d) := eb_byt _
theorem hshB_xl (h a b : List Nat) (yh : Byt h) (ya : Byt a) (yb : Byt b) (hl : a.length = b.length) : hshB h (xl a b) = xl (hshB h a) (hshB h b) := by
  unfold hshB
  rw [xl_len, hsh_ga _ (elt_64 h yh) a b ya yb hl _ (by omega), eb_ga _ _ (hsh_64 _ (elt_64 h yh) _ _) (hsh_64 _ (elt_64 h yh) _ _), ← hl]
end Go.Proofs.Ytflnhjbanlpjiai.M

namespace Go.Proofs.Ytflnhjbanlpjiai.M
open Go.RowKit

/-- What hides data: the byte at place i. -/
def pad (F : Nat → Nat) (b : List Nat) (i : Nat) : Nat := gt (enc F (cuN b (i / 16))) (i % 16)
/-- Data, hidden. -/
def strm (F : Nat → Nat) (b d : List Nat) : List Nat := (List.range d.length).map fun i => gt d i ^^^ pad F b i
theorem strm_len (F : Nat → Nat) (b d : List Nat) : (strm F b d).length = d.length := by simp [strm]
theorem strm_gt (F : Nat → Nat) (b d : List Nat) (i : Nat) (hi : i < d.length) : gt (strm F b d) i = gt d i ^^^ pad F b i := by
  rw [gt_eq _ _ (by rw [strm_len]; exact hi)]
  simp [strm]
theorem strm_byt (F : Nat → Nat) (hF : ∀ j, F j < 256) (b d : List Nat) (yb : Byt b) (yd : Byt d) : Byt (strm F b d) := by
  intro x hx
  obtain ⟨i, _, rfl⟩ := List.mem_map.1 hx
  exact xor_lt _ _ (gt_byt d yd i) (gt_byt _ (stt_byt F hF _ (cuN_byt b yb _) 10) _)
theorem strm_strm (F : Nat → Nat) (b d : List Nat) : strm F b (strm F b d) = d := by
  refine gt_ext (by rw [strm_len, strm_len]) fun i hi => ?_
  rw [strm_len, strm_len] at hi
  rw [strm_gt _ _ _ _ (by rw [strm_len]; exact hi), strm_gt _ _ _ _ hi, Nat.xor_assoc, Nat.xor_self, Nat.xor_zero]
theorem gt_take (l : List Nat) (n i : Nat) (h : i < n) : gt (l.take n) i = gt l i := by
  unfold gt
  rw [List.getD_eq_getElem?_getD, List.getD_eq_getElem?_getD, List.getElem?_take, if_pos h]
theorem strm_take (F : Nat → Nat) (b d : List Nat) (n : Nat) : strm F b (d.take n) = (strm F b d).take n := by
  refine gt_ext (by simp [strm_len]) fun i hi => ?_
  rw [strm_len, List.length_take] at hi
  rw [strm_gt _ _ _ _ (by rw [List.length_take]; exact hi), gt_take _ _ _ (by omega), gt_take _ _ _ (by omega), strm_gt _ _ _ _ (by omega)]
/-- The tag. -/
def tg (F : Nat → Nat) (n e c : List Nat) : List Nat := xl (enc F (jb n)) (hshB (enc F (zs 16)) (thash e c))
theorem tg_len (F : Nat → Nat) (n e c : List Nat) (hn : n.length = 12) : (tg F n e c).length = 16 := by rw [tg, xl_len]; exact stt_len F _ (jb_len n hn) 10
theorem tg_byt (F : Nat → Nat) (hF : ∀ j, F j < 256) (n e c : List Nat) (yn : Byt n) : Byt (tg F n e c) := xl_byt _ _ (stt_byt F hF _ (jb_byt n yn) 10) (hshB_byt _ _)
def hid1 (F : Nat → Nat) (n p : List Nat) : List Nat := strm F (cu (jb n)) p
/-- What is sealed. -/
def sld (F : Nat → Nat) (n e p : List Nat) : List Nat := hid1 F n p ++ tg F n e (hid1 F n p)
theorem sld_len (F : Nat → Nat) (n e p : List Nat) (hn : n.length = 12) : (sld F n e p).length = p.length + 16 := by rw [sld, List.length_append, tg_len _ _ _ _ hn, hid1, strm_len]
theorem sld_byt (F : Nat → Nat) (hF : ∀ j, F j < 256) (n e p : List Nat) (yn : Byt n) (yp : Byt p) : Byt (sld F n e p) :=
  app_byt (strm_byt F hF _ _ (cu_byt _ (jb_byt n yn)) yp) (tg_byt F hF n e _ yn)
/-- Whether what is sealed opens. -/
def opens (F : Nat → Nat) (n e s : List Nat) : Prop := 16 ≤ s.length ∧ tg F n e (s.take (s.length - 16)) = s.drop (s.length - 16)
instance (F : Nat → Nat) (n e s : List Nat) : Decidable (opens F n e s) := by unfold opens; infer_instance
theorem sld_opens (F : Nat → Nat) (n e p : List Nat) (hn : n.length = 12) : opens F n e (sld F n e p) := by
  have h := sld_len F n e p hn
  have h2 : (hid1 F n p).length = p.length := strm_len _ _ _
  refine ⟨by omega, ?_⟩
  rw [h, show p.length + 16 - 16 = (hid1 F n p).length by omega]
  unfold sld
  rw [List.take_left, List.drop_left]
theorem sld_plain (F : Nat → Nat) (n e p : List Nat) (hn : n.length = 12) : hid1 F n ((sld F n e p).take ((sld F n e p).length - 16)) = p := by
  have h := sld_len F n e p hn
  have h2 : (hid1 F n p).length = p.length := strm_len _ _ _
  rw [h, show p.length + 16 - 16 = (hid1 F n p).length by omega]
  unfold sld
  rw [List.take_left]
  exact strm_strm _ _ _
theorem open_sld (F : Nat → Nat) (n e s : List Nat) (h : opens F n e s) : sld F n e (hid1 F n (s.take (s.length - 16))) = s := by
  unfold sld
  rw [show hid1 F n (hid1 F n (s.take (s.length - 16))) = s.take (s.length - 16) from strm_strm _ _ _, h.2, List.take_append_drop]
end Go.Proofs.Ytflnhjbanlpjiai.M

namespace Go.Proofs.Ytflnhjbanlpjiai.W
open Go.ChangeShapes Go.WideShapes Go.ChangeAt Go.RowKit
open Go.Proofs.Ytflnhjbanlpjiai.M

theorem rd_kept {w w' : World} {b o n c : Nat} {l : List Nat} {r : Option Nat} (h : Rd w (.slice (some ⟨b, o, none⟩) n c) l) (hG : w.grownBy w' r) (hne : some b ≠ r) : Rd w' (.slice (some ⟨b, o, none⟩) n c) l := by
  obtain ⟨a, cap, e, h1, h2, hc⟩ := h
  refine ⟨a, cap, e, h1, h2, fun i hi => ?_⟩
  obtain ⟨b', o', e', hcc⟩ := hc i hi
  subst e'
  cases e
  exact ⟨b, o, rfl, hG.cell hcc hne⟩
theorem rd_blk {w : World} {b o n c : Nat} {l : List Nat} (h : Rd w (.slice (some ⟨b, o, none⟩) n c) l) (hl : 0 < l.length) : b < w.heap.size := by
  obtain ⟨a, cap, e, -, -, hc⟩ := h
  obtain ⟨b', o', e', hcc⟩ := hc 0 hl
  subst e'
  cases e
  exact World.block_lt_of_cell? w _ hcc
theorem own_spot {w : World} {base : Nat} {v : Value} {l : List Nat} (h : Own w base v l) (hl : 0 < l.length) : ∃ b cap, v = .slice (some ⟨b, 0, none⟩) l.length cap ∧ base ≤ b ∧ b < w.heap.size := by
  rcases h.2 with ⟨rfl, e⟩ | ⟨g, cap, cur, rfl, hb, hg, -⟩
  · omega
  · exact ⟨g, cap, rfl, hb, (Array.getElem?_eq_some_iff.1 hg).1⟩
theorem own_blk_lt {w : World} {base : Nat} {v : Value} {l : List Nat} (h : Own w base v l) {b : Nat} (hb : w.heap.size ≤ b) : some b ≠ v.ownBlock := h.ne_new hb

set_option maxHeartbeats 2000000 in
set_option maxRecDepth 100000 in
theorem l3stream (gk : Nat) (F : Nat → Nat) (vb vd : Value) (b d : List Nat) (w : World) (hK : Ar w gk 5 (rowTo 176 F 176)) (hF : ∀ j, F j < 256) (hb : Rd w vb b) (nb : b.length = 16) (yb : Byt b) (hd : Rd w vd d) (yd : Byt d) (nd : d.length ≤ 1000000) :
    Calls Try.prog 28 #[.slice (some ⟨gk, 0, none⟩) 176 176, vb, vd] w fun e w' => ∃ v, e = .returned v ∧ Own w' w.heap.size v (strm F b d) ∧ Below w.heap.size w w' := by
  obtain ⟨i0, hi, hz0, hz1, hz2⟩ := info_parts info8
  obtain ⟨pd, capd, rfl, -, -, hcd⟩ := hd.parts
  obtain ⟨bb, ob, cb, rfl, -, hbl⟩ := hb.spot (by omega)
  rw [nb] at hb ⊢
  have HK := hid hK
  have HKL := hid hK.lt
  have HF := hid hF
  have NB := hid nb
  have HCD := hid hcd
  have HR := hid (hb.below (below_alloc1 w (.cells #[] 5)))
  have HO := hid (own_lit0 w)
  have HB := hid (below_alloc1 w (.cells #[] 5))
  have HN := hid (show some bb ≠ (Value.slice (some ⟨w.heap.size, 0, none⟩) 0 0).ownBlock by show some bb ≠ some w.heap.size; intro e; cases e; omega)
  have SL := hid (strm_len F b d)
  clear hK hF hb nb hcd hd hbl
  go_enter Try.func28, Try.ntmps28
  go_wp2_with fail
  go_loopw [1, 7, 8, 9, 10] (fun v1 o7 a8 p9 j10 ws => ∃ n bb ob cb : Nat, ∃ u v : Value, 16 * n < d.length + 16 ∧ p9 = u ∧ j10 = v ∧ a8 = .int .i64 ((16 * n : Nat) : Int) ∧ v1 = .slice (some ⟨bb, ob, none⟩) 16 cb ∧ Hid (Rd ws (.slice (some ⟨bb, ob, none⟩) 16 cb) (cuN b n)) ∧ Hid (Own ws w.heap.size o7 ((strm F b d).take (16 * n))) ∧ Hid (some bb ≠ o7.ownBlock) ∧ Hid (Below w.heap.size w ws)) (fun _ _ a8 _ _ _ => d.length + 16 - (intOf a8).toNat)
  case atStart => exact ⟨0, bb, ob, cb, _, _, by omega, rfl, rfl, rfl, rfl, HR, hid (by rw [Nat.mul_zero, List.take_zero]; exact HO.out), HN, HB⟩
  case round =>
    clear HR HO HB HN
    obtain ⟨n, bb, ob, cb, u, v, hn, rfl, rfl, rfl, rfl, HR, HO, HN, HB⟩ := hrel
    by_cases hlt : 16 * n < d.length
    · have c1 : ((16 * n : Nat) : Int) < (d.length : Int) := by omega
      have m0 : (0 : Int) ≤ ((16 * n : Nat) : Int) := by omega
      have CL := hid (cuN_len b NB.out n)
      have CY := hid (cuN_byt b yb n)
      have KK := hid (HK.out.keep HB.out HKL.out)
      have PE := hid (show (enc F (cuN b n)).length = 16 from stt_len F (cuN b n) CL.out 10)
      have PY := hid (show Byt (enc F (cuN b n)) from stt_byt F HF.out (cuN b n) CY.out 10)
      have MN := hid (rfl : 16 * n = 16 * n)
      generalize hm : 16 * n = m at *
      replace MN := hid hm
      clear hm
      go_wp2_with fail
      refine (l2enc _ (cuN b n) F gk _ HR.out CY.out CL.out KK.out HF.out).mono ?_
      rintro e w1 ⟨r, rfl, OP, hB1⟩
      obtain ⟨bp, cp, rfl, hp1, hp2⟩ := own_spot OP (by rw [PE.out]; omega)
      rw [PE.out] at OP ⊢
      have P1 := hid OP.rd
      have R1 := hid (HR.out.below hB1)
      have O1 := hid (HO.out.below hB1)
      have N2 := hid (HO.out.ne_new hp1)
      have B1 := hid (HB.out.trans (hB1.mono HB.out.size))
      have hbb : bb < w1.heap.size := Nat.lt_of_lt_of_le (rd_blk HR.out (by rw [CL.out]; omega)) hB1.size
      have HBB := hid hbb
      have HBP := hid hp2
      clear OP hB1 HO HR HB KK hp1 hp2 hbb
      go_wp2_with fail
      go_loopw [7, 10] (fun o7 j10 wt => ∃ k : Nat, k ≤ 16 ∧ m + k ≤ d.length ∧ j10 = .int .i64 (k : Nat) ∧ Hid (Rd wt (.slice (some ⟨bb, ob, none⟩) 16 cb) (cuN b n)) ∧ Hid (Rd wt (.slice (some ⟨bp, 0, none⟩) 16 cp) (enc F (cuN b n))) ∧ Hid (Own wt w.heap.size o7 ((strm F b d).take (m + k))) ∧ Hid (some bb ≠ o7.ownBlock) ∧ Hid (some bp ≠ o7.ownBlock) ∧ Hid (w1.heap.size ≤ wt.heap.size) ∧ Hid (Below w.heap.size w wt)) (fun _ j10 _ => 16 - (intOf j10).toNat)
      case atStart => exact ⟨0, by omega, by omega, rfl, R1, P1, O1, HN, N2, hid (Nat.le_refl _), B1⟩
      case round =>
        clear R1 P1 O1 HN N2 B1
        obtain ⟨k, hk, hmk, rfl, R1, P1, O1, HN, N2, HS1, B1⟩ := hrel
        by_cases hin : k < 16 ∧ m + k < d.length
        · obtain ⟨hk16, hkd⟩ := hin
          obtain ⟨bd, od, rfl, cd0⟩ := HCD.out (m + k) hkd
          have nda := O1.out.ne (World.block_lt_of_cell? w _ cd0)
          have cd := cell_kept B1.out cd0
          rw [← gt_eq d (m + k) hkd] at cd
          have cpad := P1.out.cells k (by rw [PE.out]; exact hk16)
          rw [Nat.zero_add] at cpad
          have KD := hid (cell_alloc cd)
          have KP := hid (cell_alloc cpad)
          have hx := gt_byt d yd (m + k)
          have hy := gt_byt _ PY.out k
          have hsn := take_snoc (strm F b d) (m + k) (by rw [SL.out]; exact hkd)
          have he : (strm F b d)[m + k]'(by rw [SL.out]; exact hkd) = gt d (m + k) ^^^ gt (enc F (cuN b n)) k := by
            rw [← gt_eq (strm F b d) (m + k) (by rw [SL.out]; exact hkd), strm_gt _ _ _ _ hkd, pad, show (m + k) / 16 = n by have := MN.out; omega, show (m + k) % 16 = k by have := MN.out; omega]
          rw [he] at hsn
          have HS := hid hsn
          have hnn : ((strm F b d).take (m + k)).length = m + k := by rw [List.length_take, SL.out]; omega
          have HNN := hid hnn
          have hownK : wr.ownsRow w.heap.size 5 1 u7 (m + k) (((strm F b d).take (m + k)).map bv) := by
            have h := O1.out
            unfold Own at h
            rw [hnn] at h
            exact h
          have hsz := B1.out.size
          have HMK := hid (show od + (m + k) = od + ((m : Int) + (k : Int)).toNat by omega)
          rw [HMK.out] at cd KD
          have wmk : IntKind.i64.wrap ((m : Int) + (k : Int)) = (m : Int) + (k : Int) := by rw [IntKind.wrap_i64]; omega
          have mk0 : (0 : Int) ≤ (m : Int) + (k : Int) := by omega
          have mk1 : (m : Int) + (k : Int) < (d.length : Int) := by omega
          have k0 : (0 : Int) ≤ (k : Int) := by omega
          have k1 : (k : Int) < 16 := by omega
          generalize gt d (m + k) = x at *
          generalize gt (enc F (cuN b n)) k = y at *
          unfold bv at cd KD
          have HX : Hid (bits .xor .u8 (x : Int) (y : Int) = ((x ^^^ y : Nat) : Int)) := xor8' x y hx hy
          have ndp := N2.out
          have ndb := HN.out
          have E16 := hid hk16
          have Ekd := hid hkd
          clear hsn he hnn cd0 hk16 hkd
          go_wp2
          go_region_held3 (fun w' => w'.cell? ⟨bd, od + ((m : Int) + (k : Int)).toNat, none⟩ = some (.int .u8 (x : Nat)) ∧ w'.cell? ⟨bp, k, none⟩ = some (.int .u8 (y : Nat)))
            (first | exact ⟨cd, cpad⟩ | exact ⟨KD.out _, KP.out _⟩ | exact ⟨hgrow.cell (KD.out _) nda, hgrow.cell (KP.out _) ndp⟩)
            ((refine step_append_lies _ (by rfl) _ _ _ (by rfl) w.heap.size 5 i0 _ 1 1 Try.underlying22 hi hz0 hz1 hz2 rfl (by omega) _ _ _ (by rfl) ((World.ownsRow.alloc hownK _).drew) ⟨wr.heap.size, 0, none⟩ 1 1 [.int .u8 (bits .xor .u8 (x : Int) (y : Int))] (by rfl) (by rfl) (World.news_of_block (cs := #[.int .u8 (bits .xor .u8 (x : Int) (y : Int))]) (t := 5) (fr := (0, 0)) (heap_alloc_new wr _)) (by simp [Value.oneCell']) (by omega) (by have := Ekd.out; unfold maxLen; omega) (by have := Ekd.out; omega) (by simp; omega) (wr.heap.size + 1) (by simp) ?_; intro gg cap w2 hown1 hgrow hat hlt2))
          have hO1 : Own w2 w.heap.size (.slice (some ⟨gg, 0, none⟩) (m + k + 1) cap) ((strm F b d).take (m + (k + 1))) := by
            rw [← Nat.add_assoc, HS.out]
            rw [HX.out] at hown1
            exact own_snoc (by rw [HNN.out]; exact hown1)
          have hb1 : Below w.heap.size w w2 := ((B1.out.alloc hsz _).drew).grown hgrow (by simp; omega) (fun g e => (World.ownsRow.lt O1.out g e).1)
          have hR2 := hid (rd_kept ((R1.out.below (below_alloc1 wr (.cells #[.int .u8 (bits .xor .u8 (x : Int) (y : Int))] 5))).below (show Below _ _ _ from (Below.refl _ _).drew)) hgrow ndb)
          have hP2 := hid (rd_kept ((P1.out.below (below_alloc1 wr (.cells #[.int .u8 (bits .xor .u8 (x : Int) (y : Int))] 5))).below (show Below _ _ _ from (Below.refl _ _).drew)) hgrow ndp)
          have hN1 : some bb ≠ (Value.slice (some ⟨gg, 0, none⟩) (m + k + 1) cap).ownBlock := by
            intro e
            have e : bb = gg := by simpa [Value.ownBlock] using e
            rcases hat with q | q
            · exact ndb (by rw [e]; exact q.symm)
            · have h1 := HS1.out
              have h2 := HBB.out
              omega
          have hN2 : some bp ≠ (Value.slice (some ⟨gg, 0, none⟩) (m + k + 1) cap).ownBlock := by
            intro e
            have e : bp = gg := by simpa [Value.ownBlock] using e
            rcases hat with q | q
            · exact ndp (by rw [e]; exact q.symm)
            · have h1 := HS1.out
              have h2 := HBP.out
              omega
          have hZ2 : w1.heap.size ≤ w2.heap.size := by
            have h1 := HS1.out
            have h2 := hgrow.size
            simp at h2
            omega
          replace hO1 := hid hO1
          replace hb1 := hid hb1
          replace hN1 := hid hN1
          replace hN2 := hid hN2
          replace hZ2 := hid hZ2
          clear hown1 hgrow hownK O1 B1 R1 P1 cd cpad ndb ndp nda
          go_wp2
          go_roundw
          case rel => exact ⟨k + 1, by have := E16.out; omega, by have := Ekd.out; omega, by go_num, hR2, hP2, hO1, hN1, hN2, hZ2, hb1⟩
          case measure => simp [intOf]; omega
        · have TK := hid (show (strm F b d).take (m + k) = (strm F b d).take (16 * (n + 1)) by
            have hm := MN.out
            by_cases h1 : k < 16
            · rw [List.take_of_length_le (by rw [SL.out]; omega), List.take_of_length_le (by rw [SL.out]; omega)]
            · rw [show m + k = 16 * (n + 1) by omega])
          rw [TK.out] at O1
          have MN2 := hid (show m + 16 = 16 * (n + 1) by have := MN.out; omega)
          have hj : (¬ (k : Int) < 16) ∨ ((k : Int) < 16 ∧ ¬ (m : Int) + (k : Int) < (d.length : Int)) := by omega
          have wmk : IntKind.i64.wrap ((m : Int) + (k : Int)) = (m : Int) + (k : Int) := by rw [IntKind.wrap_i64]; omega
          have wm : IntKind.i64.wrap ((m : Int) + 16) = (m : Int) + 16 := by rw [IntKind.wrap_i64]; omega
          have hlm := hid hlt
          clear hin
          rcases hj with j1 | ⟨j1, j2⟩
          · go_wp2_with fail
            refine (l3count _ (cuN b n) _ R1.out CY.out CL.out).mono ?_
            rintro e w3 ⟨v3, rfl, O3, hB3⟩
            have L3 := cuN_len b NB.out (n + 1)
            obtain ⟨b3, c3, rfl, q1, q2⟩ := own_spot O3 (by rw [show cu (cuN b n) = cuN b (n + 1) from rfl, L3]; omega)
            rw [show cu (cuN b n) = cuN b (n + 1) from rfl, L3] at O3 ⊢
            have G1 := hid O3.rd
            have G2 := hid (O1.out.below hB3)
            have G3 := hid (O1.out.ne_new q1)
            have G4 := hid (B1.out.trans (hB3.mono B1.out.size))
            clear O3 hB3 O1 R1 P1 HN N2 B1
            go_wp2_with fail
            exact ⟨⟨n + 1, b3, 0, c3, _, _, by have := MN2.out; have := hlm.out; omega, rfl, rfl, i64_eq (by have := MN2.out; omega), rfl, G1, G2, G3, G4⟩, by simp [intOf]; omega⟩
          · go_wp2_with fail
            refine (l3count _ (cuN b n) _ R1.out CY.out CL.out).mono ?_
            rintro e w3 ⟨v3, rfl, O3, hB3⟩
            have L3 := cuN_len b NB.out (n + 1)
            obtain ⟨b3, c3, rfl, q1, q2⟩ := own_spot O3 (by rw [show cu (cuN b n) = cuN b (n + 1) from rfl, L3]; omega)
            rw [show cu (cuN b n) = cuN b (n + 1) from rfl, L3] at O3 ⊢
            have G1 := hid O3.rd
            have G2 := hid (O1.out.below hB3)
            have G3 := hid (O1.out.ne_new q1)
            have G4 := hid (B1.out.trans (hB3.mono B1.out.size))
            clear O3 hB3 O1 R1 P1 HN N2 B1
            go_wp2_with fail
            exact ⟨⟨n + 1, b3, 0, c3, _, _, by have := MN2.out; have := hlm.out; omega, rfl, rfl, i64_eq (by have := MN2.out; omega), rfl, G1, G2, G3, G4⟩, by simp [intOf]; omega⟩
    · have c1 : ¬ ((16 * n : Nat) : Int) < (d.length : Int) := by omega
      have m0 : (0 : Int) ≤ ((16 * n : Nat) : Int) := by omega
      rw [List.take_of_length_le (by rw [SL.out]; omega)] at HO
      generalize 16 * n = m at *
      go_wp2
      go_ret
      exact ⟨_, rfl, HO.out, HB.out⟩
end Go.Proofs.Ytflnhjbanlpjiai.W

namespace Go.Proofs.Ytflnhjbanlpjiai.W
open Go.ChangeShapes Go.WideShapes Go.ChangeAt Go.RowKit
open Go.Proofs.Ytflnhjbanlpjiai.M

set_option maxRecDepth 100000 in
theorem l3half (v : Value) (l : List Nat) (w : World) (h : Rd w v l) (y : Byt l) (hl : 8 ≤ l.length) :
    Calls Try.prog 78 #[v] w fun e w' => e = .returned (.int .u64 (hfN l 0 8 : Nat)) ∧ w' = w := by
  obtain ⟨b, o, cap, rfl, -, -⟩ := h.spot (by omega)
  have HR := hid h
  clear h
  go_enter Try.func78, Try.ntmps78
  go_wp2
  go_loop [3, 4] (fun n3 i4 => ∃ k : Nat, k ≤ 8 ∧ i4 = .int .i64 k ∧ n3 = .int .u64 (hfN l 0 k : Nat)) (fun _ i4 => 8 - (intOf i4).toNat)
  case atStart => exact ⟨0, by omega, rfl, rfl⟩
  case round =>
    obtain ⟨k, hk, rfl, rfl⟩ := hrel
    by_cases hlt : k < 8
    · have c := HR.out.cells k (by omega)
      have s := hf_small l y 0 k hlt
      have b0 := gt_byt l y k
      have N := hid (show hfN l 0 (k + 1) = hfN l 0 k * 256 + gt l k by rw [hfN, Nat.zero_add])
      have kl : (k : Int) < (l.length : Int) := by omega
      generalize hfN l 0 k = a at *
      generalize gt l k = x at *
      go_wp2
      go_round
      case rel => exact ⟨k + 1, by omega, by go_num, by rw [N.out]; go_num⟩
      case measure => simp [intOf]; omega
    · have hk8 : k = 8 := by omega
      subst hk8
      go_wp2
      go_ret
      exact ⟨rfl, rfl⟩

set_option maxHeartbeats 1000000 in
set_option maxRecDepth 100000 in
theorem l3bytes (p : Nat × Nat) (w : World) (hp : G64 p) :
    Calls Try.prog 79 #[.int .u64 (p.1 : Nat), .int .u64 (p.2 : Nat)] w fun e w' => e = .returned (.slice (some ⟨w.heap.size, 0, none⟩) 16 16) ∧ Own w' w.heap.size (.slice (some ⟨w.heap.size, 0, none⟩) 16 16) (eb p) ∧ Below w.heap.size w w' := by
  obtain ⟨i0, hi, hz0, hz1, hz2⟩ := info_parts info8
  have HP := hid hp
  clear hp
  go_enter Try.func79, Try.ntmps79
  go_wp2_with (at_make; refine wpList_make_full _ rfl _ _ 22 rfl w.heap.size 5 i0 (.int .u8 0) 1 Try.underlying22 hi hz0 hz1 .i64 .i64 _ _ 16 rfl rfl rfl rfl (by rw [hz2]; omega) (by unfold maxLen; omega) (Nat.le_refl _) ?_; intro w0 hown0 hgrow0)
  have hown1 := own_made w w0 16 hown0
  have hb0 := below_of_grown hgrow0 (Nat.le_refl _) (fun k hk => by simp at hk)
  clear hown0 hgrow0 hi hz0 hz1 hz2
  go_loopw [0, 1, 6] (fun n0 n1 i6 wr => ∃ k : Nat, k ≤ 8 ∧ i6 = .int .i64 (7 - (k : Int)) ∧ n0 = .int .u64 (p.1 / 256 ^ k : Nat) ∧ n1 = .int .u64 (p.2 / 256 ^ k : Nat) ∧ Hid (Own wr w.heap.size (.slice (some ⟨w.heap.size, 0, none⟩) 16 16) (rk (gt (eb p)) k)) ∧ Hid (Below w.heap.size w wr)) (fun _ _ i6 _ => (intOf i6 + 1).toNat)
  case atStart => exact ⟨0, by omega, rfl, by rw [Nat.pow_zero, Nat.div_one], by rw [Nat.pow_zero, Nat.div_one], hid (by rw [rk_zero]; exact hown1), hid hb0⟩
  case round =>
    clear hown1 hb0
    obtain ⟨k, hk, rfl, rfl, rfl, HO, HB⟩ := hrel
    by_cases hlt : k < 8
    · obtain ⟨t, ht⟩ : ∃ t : Nat, t + k = 7 := ⟨7 - k, by omega⟩
      rw [show 7 - (k : Int) = (t : Int) by omega]
      have d0 : ∃ u, wr.cell? ⟨w.heap.size, t, none⟩ = some u := ⟨_, HO.out.cell (rk_len _ _) t (by rw [rk_len]; omega)⟩
      have d1 : ∃ u, wr.cell? ⟨w.heap.size, 8 + t, none⟩ = some u := ⟨_, HO.out.cell (rk_len _ _) (8 + t) (by rw [rk_len]; omega)⟩
      obtain ⟨u0, d0⟩ := d0
      obtain ⟨u1, d1⟩ := d1
      have f0 := HO.out.open (rk_len _ _) t
      have f1 := HO.out.open (rk_len _ _) (8 + t)
      have E0 := eb_lo p k t hlt ht
      have E1 := eb_hi p k t (8 + t) hlt ht rfl
      have RS := rk_set (gt (eb p)) k t (8 + t) hlt ht rfl
      have S1 := HO.out.stored (rk_len _ _) t (gt (eb p) t)
      have S2 := S1.1.stored (by rw [List.length_set, rk_len]) (8 + t) (gt (eb p) (8 + t))
      rw [RS] at S2
      have B2 := (HB.out.setCell (p := ⟨w.heap.size, t, none⟩) (Nat.le_refl _) (bv (gt (eb p) t))).setCell (p := ⟨w.heap.size, 8 + t, none⟩) (Nat.le_refl _) (bv (gt (eb p) (8 + t)))
      have S2 := S2.1
      unfold bv at S2 B2
      have P0 := hid (pow_step p.1 k)
      have P1 := hid (pow_step p.2 k)
      have q0 : p.1 / 256 ^ k < 18446744073709551616 := Nat.lt_of_le_of_lt (Nat.div_le_self _ _) HP.out.1
      have q1 : p.2 / 256 ^ k < 18446744073709551616 := Nat.lt_of_le_of_lt (Nat.div_le_self _ _) HP.out.2
      rw [E0, E1] at S2 B2
      clear S1 RS E0 E1
      generalize p.1 / 256 ^ k = a at *
      generalize p.2 / 256 ^ k = b at *
      have t0 : (0 : Int) ≤ (t : Int) := by omega
      have t1 : (t : Int) < 16 := by omega
      have k0 : (0 : Int) ≤ 8 + (t : Int) := by omega
      have k1 : 8 + (t : Int) < 16 := by omega
      rw [show ((a % 256 : Nat) : Int) = (a : Int) % 256 by omega, show ((b % 256 : Nat) : Int) = (b : Int) % 256 by omega] at S2 B2
      replace S2 := hid S2
      replace B2 := hid B2
      go_wp2
      go_roundw
      case rel => exact ⟨k + 1, by omega, i64_eq (by omega), by rw [← P0.out]; rfl, by rw [← P1.out]; rfl, S2, B2⟩
      case measure => simp [intOf]
    · have hk8 : k = 8 := by omega
      subst hk8
      rw [rk_end] at HO
      go_wp2
      go_ret
      exact ⟨rfl, HO.out, HB.out⟩

theorem hfN_drop (l : List Nat) (o : Nat) (k : Nat) : ∀ n, hfN (l.drop o) k n = hfN l (o + k) n
  | 0 => rfl
  | n + 1 => by
    rw [hfN, hfN, hfN_drop l o k n]
    congr 1
    unfold gt
    rw [List.getD_eq_getElem?_getD, List.getD_eq_getElem?_getD, List.getElem?_drop, Nat.add_assoc]
theorem wrap64 (a : Nat) (h : a < 18446744073709551616) : IntKind.u64.wrap (a : Int) = (a : Int) := by rw [IntKind.wrap_u64]; omega
theorem gx1_odd (a b : Nat) (h : G64 (a, b)) (hb : b % 2 = 1) : bits .xor .u64 (IntKind.u64.wrap ((a : Int) / 2)) 16212958658533785600 = ((gx (a, b)).1 : Nat) := by
  have h1 : a < 18446744073709551616 := h.1
  rw [show (a : Int) / 2 = ((a / 2 : Nat) : Int) by omega, wrap64 _ (by omega), show (16212958658533785600 : Int) = ((16212958658533785600 : Nat) : Int) from rfl, u64_xor_nat _ _ (by omega) (by decide)]
  simp [gx, hb]
theorem gx1_even (a b : Nat) (h : G64 (a, b)) (hb : ¬ b % 2 = 1) : IntKind.u64.wrap ((a : Int) / 2) = ((gx (a, b)).1 : Nat) := by
  have h1 : a < 18446744073709551616 := h.1
  rw [show (a : Int) / 2 = ((a / 2 : Nat) : Int) by omega, wrap64 _ (by omega)]
  simp [gx, hb]
theorem xor_top (b : Nat) (h : b < 9223372036854775808) : b ^^^ 9223372036854775808 = b + 9223372036854775808 := by
  have h1 := nat_join 63 9223372036854775808 b (by decide) h
  rw [Nat.add_comm, ← h1]
  apply Nat.eq_of_testBit_eq
  intro k
  rw [Nat.testBit_or, Nat.testBit_xor]
  by_cases hk : k = 63
  · subst hk
    rw [Nat.testBit_lt_two_pow (x := b) (i := 63) h]
    rfl
  · have e : (9223372036854775808 : Nat).testBit k = false := by
      have := Nat.testBit_two_pow (n := 63) (m := k)
      rw [show (9223372036854775808 : Nat) = 2 ^ 63 from rfl, this]
      simp; omega
    rw [e]
    simp
theorem gx2_any (a b : Nat) (h : G64 (a, b)) : IntKind.u64.wrap (IntKind.u64.wrap ((b : Int) / 2) + (a : Int) % 2 * 9223372036854775808) = ((gx (a, b)).2 : Nat) := by
  have h1 : b < 18446744073709551616 := h.2
  rw [show (b : Int) / 2 = ((b / 2 : Nat) : Int) by omega, wrap64 _ (by omega)]
  by_cases ha : a % 2 = 1
  · rw [show (a : Int) % 2 = 1 by omega, IntKind.wrap_u64]
    simp only [gx, ha, if_true]
    rw [xor_top _ (by omega)]
    omega
  · rw [show (a : Int) % 2 = 0 by omega, IntKind.wrap_u64]
    simp only [gx, ha, if_false]
    rw [Nat.xor_zero]
    omega
theorem bit_yes' (x m : Nat) (h : x / 2 ^ m % 2 = 1) : (((x : Int) / 2 ^ m).tmod 2 == 1) = true := by
  rw [beq_iff_eq, show ((x : Int) / 2 ^ m) = ((x / 2 ^ m : Nat) : Int) by simp, Int.tmod_eq_emod_of_nonneg (Int.natCast_nonneg _)]
  omega
theorem bit_no' (x m : Nat) (h : ¬ x / 2 ^ m % 2 = 1) : (((x : Int) / 2 ^ m).tmod 2 == 1) = false := by
  rw [beq_eq_false_iff_ne, show ((x : Int) / 2 ^ m) = ((x / 2 ^ m : Nat) : Int) by simp, Int.tmod_eq_emod_of_nonneg (Int.natCast_nonneg _)]
  omega
theorem par_yes (b : Nat) (h : b % 2 = 1) : ((b : Int) % 2 == 1) = true := by rw [beq_iff_eq]; omega
theorem par_no (b : Nat) (h : ¬ b % 2 = 1) : ((b : Int) % 2 == 1) = false := by rw [beq_eq_false_iff_ne]; omega
theorem u64_eq {a b : Int} (h : a = b) : Value.int .u64 a = .int .u64 b := by rw [h]
set_option maxHeartbeats 1000000 in
set_option maxRecDepth 100000 in
theorem l3times (va vb : Value) (la lb : List Nat) (w : World) (ha : Rd w va la) (hb : Rd w vb lb) (ya : Byt la) (yb : Byt lb) (na : la.length = 16) (nb : lb.length = 16) :
    Calls Try.prog 76 #[va, vb] w fun e w' => e = .returned (.slice (some ⟨w.heap.size, 0, none⟩) 16 16) ∧ Own w' w.heap.size (.slice (some ⟨w.heap.size, 0, none⟩) 16 16) (gtm la lb) ∧ Below w.heap.size w w' := by
  obtain ⟨ba, oa, capa, rfl, ea, -⟩ := ha.spot (by omega)
  obtain ⟨bb, ob, capb, rfl, eb', -⟩ := hb.spot (by omega)
  rw [na] at ha ea
  rw [nb] at hb eb'
  rw [na, nb]
  have HA := hid ha
  have HB := hid hb
  have NA := hid na
  have NB := hid nb
  have HD := hid (rd_piece hb 8 8 (by omega))
  rw [sub_drop lb 8 8 (by omega)] at HD
  have HF := run_from bb ob 16 capb 8 (by omega) (by omega)
  clear ha hb na nb
  go_enter Try.func76, Try.ntmps76
  go_wp2_with fail
  refine (l3half _ lb _ HB.out yb (by rw [NB.out]; omega)).mono ?_
  rintro e w' ⟨rfl, rfl⟩
  go_wp2_with fail
  refine (l3half _ (lb.drop 8) _ HD.out (fun x hx => yb x (List.mem_of_mem_drop hx)) (by rw [List.length_drop, NB.out]; omega)).mono ?_
  rintro e w' ⟨rfl, rfl⟩
  rw [hfN_drop]
  clear HD HF
  go_wp2_with fail
  go_loop [5, 6, 7, 8, 9, 10] (fun x5 y6 h7 l8 i9 o10 => ∃ n : Nat, ∃ u : Value, n ≤ 128 ∧ o10 = u ∧ i9 = .int .i64 n ∧ x5 = .int .u64 ((gs (fb (elt la)) (elt lb) n).1 : Nat) ∧ y6 = .int .u64 ((gs (fb (elt la)) (elt lb) n).2 : Nat) ∧ h7 = .int .u64 ((gxN (elt lb) n).1 : Nat) ∧ l8 = .int .u64 ((gxN (elt lb) n).2 : Nat)) (fun _ _ _ _ i9 _ => 128 - (intOf i9).toNat)
  case atStart => exact ⟨0, _, by omega, rfl, rfl, rfl, rfl, rfl, rfl⟩
  case round =>
    obtain ⟨n, u, hn, rfl, rfl, rfl, rfl, rfl, rfl⟩ := hrel
    by_cases hlt : n < 128
    · have c := HA.out.cells (n / 8) (by rw [NA.out]; omega)
      have SG := gs_64 (fb (elt la)) (elt_64 lb yb) n
      have XG := gxN_64 (elt_64 lb yb) n
      have FB := fb_elt la ya n hlt
      have GX : gxN (elt lb) (n + 1) = gx (gxN (elt lb) n) := rfl
      have x0 := gt_byt la ya (n / 8)
      have n0 : (0 : Int) ≤ (n : Int) := by omega
      have n1 : (n : Int) < 128 := by omega
      generalize gt la (n / 8) = x at *
      by_cases hb : x.testBit (7 - n % 8) = true
      · have SN := gs_yes (fb (elt la)) (elt lb) n (FB.trans hb)
        have cb := bit_yes' x _ ((tb_eq _ _).1 hb)
        clear FB hb
        generalize gs (fb (elt la)) (elt lb) n = S at *
        generalize gxN (elt lb) n = X at *
        obtain ⟨s1, s2⟩ := S
        obtain ⟨a, b⟩ := X
        simp only at *
        by_cases hp : b % 2 = 1
        · have cp := par_yes b hp
          go_wp2
          go_round
          case rel =>
            exact ⟨n + 1, _, by omega, rfl, by go_num, u64_eq (by rw [SN]; exact u64_xor_nat _ _ SG.1 XG.1), u64_eq (by rw [SN]; exact u64_xor_nat _ _ SG.2 XG.2), u64_eq (by rw [GX]; exact gx1_odd a b XG hp), u64_eq (by rw [GX]; exact gx2_any a b XG)⟩
          case measure => simp [intOf]; omega
        · have cp := par_no b hp
          go_wp2
          go_round
          case rel =>
            exact ⟨n + 1, _, by omega, rfl, by go_num, u64_eq (by rw [SN]; exact u64_xor_nat _ _ SG.1 XG.1), u64_eq (by rw [SN]; exact u64_xor_nat _ _ SG.2 XG.2), u64_eq (by rw [GX]; exact gx1_even a b XG hp), u64_eq (by rw [GX]; exact gx2_any a b XG)⟩
          case measure => simp [intOf]; omega
      · have SN := gs_no (fb (elt la)) (elt lb) n (FB.trans (by simpa using hb))
        have cb := bit_no' x _ (fun e => hb ((tb_eq _ _).2 e))
        clear FB hb
        generalize gs (fb (elt la)) (elt lb) n = S at *
        generalize gxN (elt lb) n = X at *
        obtain ⟨s1, s2⟩ := S
        obtain ⟨a, b⟩ := X
        simp only at *
        by_cases hp : b % 2 = 1
        · have cp := par_yes b hp
          go_wp2
          go_round
          case rel =>
            exact ⟨n + 1, _, by omega, rfl, by go_num, u64_eq (by rw [SN]), u64_eq (by rw [SN]), u64_eq (by rw [GX]; exact gx1_odd a b XG hp), u64_eq (by rw [GX]; exact gx2_any a b XG)⟩
          case measure => simp [intOf]; omega
        · have cp := par_no b hp
          go_wp2
          go_round
          case rel =>
            exact ⟨n + 1, _, by omega, rfl, by go_num, u64_eq (by rw [SN]), u64_eq (by rw [SN]), u64_eq (by rw [GX]; exact gx1_even a b XG hp), u64_eq (by rw [GX]; exact gx2_any a b XG)⟩
          case measure => simp [intOf]; omega
    · have hn8 : n = 128 := by omega
      subst hn8
      go_wp2_with fail
      refine (l3bytes (gmul (elt la) (elt lb)) _ (gmul_64 _ (elt_64 lb yb))).mono ?_
      rintro e w1 ⟨rfl, O, B⟩
      go_wp2
      go_ret
      exact ⟨rfl, O, B⟩
end Go.Proofs.Ytflnhjbanlpjiai.W
