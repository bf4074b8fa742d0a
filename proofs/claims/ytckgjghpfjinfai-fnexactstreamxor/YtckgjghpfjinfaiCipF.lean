/-
  What a key needs for all blocks: its box and its words, as one row of memory.
-/
import Derived.Test.YtckgjghpfjinfaiExpWalks
import Derived.Test.YtckgjghpfjinfaiMkWalks
import Derived.Test.YtckgjghpfjinfaiEncF
namespace Go.Proofs.Ytckgjghpfjinfai.W
open Go.ChangeShapes Go.WideShapes Go.ChangeAt Go.RowKit
open Go.Proofs.Ytckgjghpfjinfai.M

/-- The box, and the words behind it. -/
def cph (F : Nat → Nat) (m : Nat) : List Nat := boxL ++ rowTo 176 F m
theorem cph_len (F : Nat → Nat) (m : Nat) : (cph F m).length = 432 := by rw [cph, List.length_append, boxL_len, rowTo_len]
theorem cph_box (F : Nat → Nat) (m a : Nat) (ha : a < 256) : gt (cph F m) a = sbx a := by
  rw [cph, gt_append _ _ _ (by rw [boxL_len]; exact ha), gt_some _ _ _ (boxL_at a ha)]
theorem cph_word (F : Nat → Nat) (m j : Nat) : gt (cph F m) (256 + j) = gt (rowTo 176 F m) j := by
  have h := gt_append2 boxL (rowTo 176 F m) j
  rw [boxL_len] at h
  exact h
set_option maxRecDepth 100000 in
theorem cip_built : Try.prog.built 110 [(0, .agg (arr boxL))] = some (arr (boxL ++ zs 176)) := by kernel_rfl
theorem cip_eq {x : List (Nat × Value)} (h : x = [(0, .agg (arr boxL))]) : Try.prog.built 110 x = some (arr (boxL ++ zs 176)) := by rw [h]; exact cip_built
theorem build_eq {P : Program} {ops : Array Oper} {rest : List Oper} {o : Oper} {a : Act} {w : World} {Q : Exit → Act → World → Prop} (hg : o.guard = none) (t : TypeId) (parts : Array (Nat × Operand)) (ho : o.op = .build t parts) (cells : Array Value)
    (hb : P.built t (parts.map fun (i, x) => (i, a.eval x)).toList = some cells) (h : wpList P ops Q rest (a.put o.dst (.agg cells)) w) : wpList P ops Q (o :: rest) a w := by
  refine wpList_build hg t parts ho (by rw [hb]; rfl) ?_
  rw [hb]
  exact h
theorem cip_start (F : Nat → Nat) : boxL ++ zs 176 = cph F 0 := by rw [cph, rowTo_zero]
/-- Word i of all words. -/
theorem idx_all (l : List Nat) (i : Nat) (hi : i < 44) (w : World) : (Instr.index 112 (.agg (arr l)) (.int .i64 (i : Int))).run Try.prog w = .ok (.agg (arr (sub l (4 * i) 4))) w := by
  have hs : ∀ w : World, (sizeOf 111).run Try.prog w = .ok 4 w := fun _ => by kernel_rfl
  have hag : ∀ w : World, (isAgg 111).run Try.prog w = .ok true w := fun _ => by kernel_rfl
  have e : (arr l).extract (i * 4) (i * 4 + 4) = arr (sub l (4 * i) 4) := by
    apply Array.ext'
    rw [Array.toList_extract]
    unfold arr sub
    simp [List.extract, Nat.mul_comm, List.map_take, List.map_drop]
  simp [Instr.index, run_underlying Try.underlying112, asIntOf, part, hs, hag, e, go_sem]
  intro h
  omega
theorem cph_copy (F : Nat → Nat) (n : Nat) (hn : n < 44) : ((arr (cph F (4 * n))).toList.take (256 + 4 * n) ++ (sub (rowTo 176 F 176) (4 * n) 4).map bv ++ (arr (cph F (4 * n))).toList.drop (256 + 4 * n + 4)).toArray = arr (cph F (4 * n + 4)) := by
  unfold arr
  rw [List.toList_toArray, ← List.map_take, ← List.map_drop, ← List.map_append, ← List.map_append]
  congr 1
  congr 1
  have hl := cph_len F (4 * n)
  have hs := sub_len (rowTo 176 F 176) (4 * n) 4 (by rw [rowTo_len]; omega)
  apply List.ext_getElem?
  intro i
  have key : ∀ m j, (cph F m)[j]? = if j < 256 then some (sbx j) else if j < 432 then some (if j - 256 < m then F (j - 256) else 0) else none := fun m j => by
    unfold cph
    by_cases h1 : j < 256
    · rw [if_pos h1, List.getElem?_append_left (by rw [boxL_len]; exact h1), boxL_at j h1]
    · rw [if_neg h1, List.getElem?_append_right (by rw [boxL_len]; omega), boxL_len]
      by_cases h2 : j < 432
      · rw [if_pos h2, rowTo_get _ _ _ _ (by omega)]
      · rw [if_neg h2, List.getElem?_eq_none (by rw [rowTo_len]; omega)]
  have e1 : ((cph F (4 * n)).take (256 + 4 * n)).length = 256 + 4 * n := by rw [List.length_take, hl]; omega
  rw [key (4 * n + 4) i, List.append_assoc]
  by_cases c1 : i < 256 + 4 * n
  · rw [List.getElem?_append_left (by rw [e1]; exact c1), List.getElem?_take, if_pos c1, key]
    by_cases h1 : i < 256
    · rw [if_pos h1, if_pos h1]
    · rw [if_neg h1, if_neg h1, if_pos (by omega), if_pos (by omega), if_pos (by omega), if_pos (by omega)]
  · rw [List.getElem?_append_right (by rw [e1]; omega), e1, if_neg (by omega)]
    by_cases c2 : i < 256 + 4 * n + 4
    · rw [List.getElem?_append_left (by rw [hs]; omega), if_pos (by omega), if_pos (by omega)]
      unfold sub
      rw [List.getElem?_take, if_pos (by omega), List.getElem?_drop, rowTo_get _ _ _ _ (by omega), if_pos (by omega), show 4 * n + (i - (256 + 4 * n)) = i - 256 by omega]
    · rw [List.getElem?_append_right (by rw [hs]; omega), hs, List.getElem?_drop, key, show 256 + 4 * n + 4 + (i - (256 + 4 * n) - 4) = i by omega, if_neg (by omega)]
      by_cases h2 : i < 432
      · rw [if_pos h2, if_pos h2, if_neg (by omega), if_neg (by omega)]
      · rw [if_neg h2, if_neg h2]
end Go.Proofs.Ytckgjghpfjinfai.W
