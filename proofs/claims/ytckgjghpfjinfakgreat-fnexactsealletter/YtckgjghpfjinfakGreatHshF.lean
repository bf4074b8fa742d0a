/-
  The hash of blocks: plain mathematics. No program is named here.
-/
import Derived.Test.YtckgjghpfjinfakGreatGrpF
namespace Go.Proofs.YtckgjghpfjinfakGreat.M
open Go.RowKit

theorem eb_g0 : eb g0 = List.replicate 16 0 := by decide
theorem xg_gt (a b : List Nat) (i : Nat) (ha : i < a.length) : gt (xl a b) i = gt a i ^^^ gt b i := by
  rw [gt_eq _ i (by rw [xl_len]; exact ha)]
  simp [xl, gt]
/-- The sum over the first n blocks. -/
def hsh (h : Nat × Nat) (d : List Nat) : Nat → Nat × Nat
  | 0 => g0
  | n + 1 => gmul (ga (hsh h d n) (elt (sub d (16 * n) 16))) h
theorem sub_byt (l : List Nat) (y : Byt l) (o n : Nat) : Byt (sub l o n) := fun x hx => y x (List.mem_of_mem_drop (List.mem_of_mem_take hx))
theorem hsh_64 (h : Nat × Nat) (hh : G64 h) (d : List Nat) : ∀ n, G64 (hsh h d n)
  | 0 => ⟨by show (0 : Nat) < _; decide, by show (0 : Nat) < _; decide⟩
  | _ + 1 => gmul_64 _ hh
theorem hsh_ga (h : Nat × Nat) (hh : G64 h) (a b : List Nat) (ya : Byt a) (yb : Byt b) (hl : a.length = b.length) : ∀ n, 16 * n ≤ a.length → hsh h (xl a b) n = ga (hsh h a n) (hsh h b n)
  | 0, _ => (ga_0 g0).symm
  | n + 1, hn => by
    have e : sub (xl a b) (16 * n) 16 = xl (sub a (16 * n) 16) (sub b (16 * n) 16) := by
      have l1 : (sub (xl a b) (16 * n) 16).length = 16 := sub_len _ _ _ (by rw [xl_len]; omega)
      have l2 : (sub a (16 * n) 16).length = 16 := sub_len _ _ _ (by omega)
      refine gt_ext (by rw [l1, xl_len, l2]) fun i hi => ?_
      rw [l1] at hi
      rw [sub_gt _ _ _ _ hi, xg_gt _ _ _ (by omega), xg_gt _ _ _ (by omega), sub_gt _ _ _ _ hi, sub_gt _ _ _ _ hi]
    rw [hsh, hsh, hsh, hsh_ga h hh a b ya yb hl n (by omega), e, elt_xl _ _ (sub_byt a ya _ _) (sub_byt b yb _ _) (sub_len _ _ _ (by omega)) (sub_len _ _ _ (by omega)), ga_four, gmul_ga' _ _ _ (ga_64 (hsh_64 h hh a n) (elt_64 _ (sub_byt a ya _ _))) (ga_64 (hsh_64 h hh b n) (elt_64 _ (sub_byt b yb _ _))) hh]
/-- The hash of data, as bytes. -/
def hshB (h d : List Nat) : List Nat := eb (hsh (elt h) d (d.length / 16))
theorem hshB_len (h d : List Nat) : (hshB h d).length = 16 := eb_len _
theorem hshB_byt (h d : List Nat) : Byt (hshB h d) := eb_byt _
theorem hshB_xl (h a b : List Nat) (yh : Byt h) (ya : Byt a) (yb : Byt b) (hl : a.length = b.length) : hshB h (xl a b) = xl (hshB h a) (hshB h b) := by
  unfold hshB
  rw [xl_len, hsh_ga _ (elt_64 h yh) a b ya yb hl _ (by omega), eb_ga _ _ (hsh_64 _ (elt_64 h yh) _ _) (hsh_64 _ (elt_64 h yh) _ _), ← hl]
end Go.Proofs.YtckgjghpfjinfakGreat.M
