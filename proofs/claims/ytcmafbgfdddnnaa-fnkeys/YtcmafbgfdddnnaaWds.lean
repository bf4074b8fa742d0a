/-
  Slices of slices of bytes that are the call's own.
-/
import Derived.Test.YtcmafbgfdddnnaaSlX
import Derived.Test.YtcmafbgfdddnnaaKeysF
namespace Go.Proofs.Ytcmafbgfdddnnaa.M
open Go.RowKit

/-- v is a slice of the call's own, its cells the slices vs, each of them the call's own and apart from the others; they hold ls. -/
structure Wds (w : World) (base : Nat) (v : Value) (vs : List Value) (ls : List (List Nat)) : Prop where
  row : w.ownsRow base 22 1 v ls.length vs
  len : vs.length = ls.length
  own : ∀ (i : Nat) (u : Value) (l : List Nat), vs[i]? = some u → ls[i]? = some l → Own w base u l
  apart : ∀ (i j : Nat) (u u' : Value), i < j → vs[i]? = some u → vs[j]? = some u' → u.ownBlock = none ∨ u.ownBlock ≠ u'.ownBlock

theorem tag_ne {w : World} {b b' : Nat} {A B : TypeId} {v u : Value} {n m : Nat} {xs ys : List Value} (h : w.ownsRow b A 1 v n xs) (h' : w.ownsRow b' B 1 u m ys) (hAB : A ≠ B) : u.ownBlock = none ∨ u.ownBlock ≠ v.ownBlock := by
  rcases h'.2 with ⟨rfl, -⟩ | ⟨g, cap, cur, rfl, -, hg, -⟩
  · exact .inl rfl
  · refine .inr ?_
    rcases h.2 with ⟨rfl, -⟩ | ⟨g2, cap2, cur2, rfl, -, hg2, -⟩
    · simp [Value.ownBlock]
    · intro e
      simp [Value.ownBlock] at e
      subst e
      rw [hg] at hg2
      simp at hg2
      exact hAB hg2.2.symm
theorem row_below {w w' : World} {base n : Nat} {T : TypeId} {v : Value} {xs : List Value} (h : w.ownsRow base T 1 v n xs) (hb : Below w.heap.size w w') : w'.ownsRow base T 1 v n xs := by
  refine ⟨h.1, ?_⟩
  rcases h.2 with hn | ⟨g, cap, cur, rfl, hbb, hgg, rest⟩
  · exact .inl hn
  · exact .inr ⟨g, cap, cur, rfl, hbb, by rw [hb.block g (Array.getElem?_eq_some_iff.1 hgg).1]; exact hgg, rest⟩
theorem row_mono {w : World} {base base' n : Nat} {T : TypeId} {v : Value} {xs : List Value} (h : w.ownsRow base T 1 v n xs) (hb : base' ≤ base) : w.ownsRow base' T 1 v n xs := by
  refine ⟨h.1, ?_⟩
  rcases h.2 with hn | ⟨g, cap, cur, rfl, hbb, rest⟩
  · exact .inl hn
  · exact .inr ⟨g, cap, cur, rfl, by omega, rest⟩
theorem Wds.below {w w' : World} {base : Nat} {v : Value} {vs : List Value} {ls : List (List Nat)} (h : Wds w base v vs ls) (hb : Below w.heap.size w w') : Wds w' base v vs ls :=
  ⟨row_below h.row hb, h.len, fun i u l h1 h2 => (h.own i u l h1 h2).below hb, h.apart⟩
theorem Wds.mono {w : World} {base base' : Nat} {v : Value} {vs : List Value} {ls : List (List Nat)} (h : Wds w base v vs ls) (hb : base' ≤ base) : Wds w base' v vs ls :=
  ⟨row_mono h.row hb, h.len, fun i u l h1 h2 => (h.own i u l h1 h2).mono hb, h.apart⟩
theorem Wds.nil (w : World) (base : Nat) : Wds w base (.slice none 0 0) [] [] :=
  ⟨World.ownsRow_nil _ _ _ _, rfl, fun i u l h1 _ => by simp at h1, fun i j u u' _ h1 _ => by simp at h1⟩
theorem at_snoc {α : Type} {l : List α} {x y : α} {i : Nat} (h : (l ++ [x])[i]? = some y) : l[i]? = some y ∨ (i = l.length ∧ y = x) := by
  rcases Nat.lt_trichotomy i l.length with q | q | q
  · rw [List.getElem?_append_left q] at h
    exact .inl h
  · subst q
    simp at h
    exact .inr ⟨rfl, h.symm⟩
  · rw [List.getElem?_append_right (by omega), List.getElem?_eq_none (by simp; omega)] at h
    cases h
/-- One slice more: made behind w0, and hung on behind w2. -/
theorem Wds.snoc {w0 w2 w3 : World} {base : Nat} {v v' u : Value} {vs : List Value} {ls : List (List Nat)} {x : List Nat} (hT : 22 ≠ 5) (h : Wds w0 base v vs ls) (hB : Below w0.heap.size w0 w2) (hz : base ≤ w0.heap.size)
    (hu : Own w2 w0.heap.size u x) (hr : w3.ownsRow base 22 1 v' (ls.length + 1) (vs ++ [u])) (hG : w2.grownBy w3 v.ownBlock) : Wds w3 base v' (vs ++ [u]) (ls ++ [x]) := by
  have h2 := h.below hB
  refine ⟨by rw [List.length_append]; exact hr, by simp [h.len], fun i u' l h1 h3 => ?_, fun i j a b hij h1 h3 => ?_⟩
  · rcases at_snoc h1 with h1 | ⟨e1, rfl⟩
    · rcases at_snoc h3 with h3 | ⟨e3, -⟩
      · exact (h2.own i u' l h1 h3).kept hG (tag_ne h2.row (h2.own i u' l h1 h3) hT)
      · have := (List.getElem?_eq_some_iff.1 h1).1
        have := h.len
        omega
    · rcases at_snoc h3 with h3 | ⟨e3, rfl⟩
      · have := (List.getElem?_eq_some_iff.1 h3).1
        have := h.len
        omega
      · exact (hu.kept hG (tag_ne h2.row hu hT)).mono hz
  · rcases at_snoc h3 with h3 | ⟨e3, rfl⟩
    · have hj := (List.getElem?_eq_some_iff.1 h3).1
      rcases at_snoc h1 with h1 | ⟨e1, -⟩
      · exact h.apart i j a b hij h1 h3
      · omega
    · rcases at_snoc h1 with h1 | ⟨e1, -⟩
      · have hi := (List.getElem?_eq_some_iff.1 h1).1
        have q : ls[i]? = some (ls[i]'(by rw [← h.len]; exact hi)) := List.getElem?_eq_getElem _
        exact (h.own i a _ h1 q).apart hu (Nat.le_refl _)
      · omega
theorem row_kept_set {w' : World} {base g n : Nat} {T : TypeId} {v x y : Value} {xs : List Value} (h : w'.ownsRow base T 1 v n xs) (hg : g < base) : ((w'.setCell ⟨g, 0, none⟩ x).setCell ⟨g, 1, none⟩ y).ownsRow base T 1 v n xs := by
  refine ⟨h.1, ?_⟩
  rcases h.2 with hn | ⟨b, cap, cur, rfl, hbb, hgg, rest⟩
  · exact .inl hn
  · exact .inr ⟨b, cap, cur, rfl, hbb, by rw [heap_setCell_other _ ⟨g, 1, none⟩ b _ (by show b ≠ g; omega), heap_setCell_other _ ⟨g, 0, none⟩ b _ (by show b ≠ g; omega)]; exact hgg, rest⟩
theorem Wds.set2 {w' : World} {base g : Nat} {v x y : Value} {vs : List Value} {ls : List (List Nat)} (h : Wds w' base v vs ls) (hg : g < base) : Wds ((w'.setCell ⟨g, 0, none⟩ x).setCell ⟨g, 1, none⟩ y) base v vs ls :=
  ⟨row_kept_set h.row hg, h.len, fun i u l h1 h2 => (h.own i u l h1 h2).set2 hg, h.apart⟩
/-- Where the cells of the slice lie. -/
theorem Wds.cell {w : World} {base g cap n : Nat} {vs : List Value} {ls : List (List Nat)} (h : Wds w base (.slice (some ⟨g, 0, none⟩) n cap) vs ls) (hn : ls.length = n) (k : Nat) (hk : k < n) : ∃ u, vs[k]? = some u ∧ w.cell? ⟨g, k, none⟩ = some u := by
  have q := h.row
  rw [hn] at q
  have hc := World.ownsRow.cellAt q k (by omega)
  have hk' : k < vs.length := by rw [h.len]; omega
  exact ⟨vs[k], List.getElem?_eq_getElem hk', by rw [hc, List.getElem?_eq_getElem hk']⟩
theorem Wds.at {w : World} {base n : Nat} {v : Value} {vs : List Value} {ls : List (List Nat)} (h : Wds w base v vs ls) (hn : ls.length = n) (h0 : 0 < n) : ∃ g cap, v = .slice (some ⟨g, 0, none⟩) n cap ∧ base ≤ g ∧ n ≤ cap ∧ cap ≤ maxLen := by
  have q := h.row
  rw [hn] at q
  rcases q.2 with ⟨-, e⟩ | ⟨g, cap, cur, e, hb, -, hc, hm, -⟩
  · omega
  · exact ⟨g, cap, e, hb, hc, hm⟩
/-- The words of a key, n of them. -/
def kws (F : Nat → Nat) (n : Nat) : List (List Nat) := (List.range n).map fun i => sub (rowTo 176 F 176) (4 * i) 4
theorem kws_len (F : Nat → Nat) (n : Nat) : (kws F n).length = n := by simp [kws]
theorem kws_snoc (F : Nat → Nat) (n : Nat) : kws F (n + 1) = kws F n ++ [sub (rowTo 176 F 176) (4 * n) 4] := by
  simp [kws, List.range_succ]
end Go.Proofs.Ytcmafbgfdddnnaa.M
