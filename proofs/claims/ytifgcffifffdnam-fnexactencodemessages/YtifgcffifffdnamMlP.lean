/-
  Slices of messages that are their own: one more is put in, one is marked. No function of the program is named here.
-/
import Derived.Test.YtifgcffifffdnamMlF
namespace Go.Proofs.Ytifgcffifffdnam.W
open Go.RowKit
open Go.Proofs.Ytifgcffifffdnam.M

theorem ob_keep {w w' : World} {lo hi : Nat} {u : Value} {l : List Nat} (h : OB w lo hi u l) (k : ∀ b, u.ownBlock = some b → w'.heap[b]? = w.heap[b]?) : OB w' lo hi u l := by
  obtain ⟨⟨T, r1, r2⟩, r3⟩ := h
  refine ⟨⟨T, r1, ?_⟩, r3⟩
  rcases r2 with hn | ⟨g, cap, cur, rfl, hbb, hgg, rest⟩
  · exact .inl hn
  · exact .inr ⟨g, cap, cur, rfl, hbb, by rw [k g rfl]; exact hgg, rest⟩
theorem set_get {α : Type} {l : List α} {i j : Nat} {x : α} (h : i < (l.set j x).length) (h' : i < l.length) : (l.set j x)[i] = if j = i then x else l[i] := by
  rw [List.getElem_set]
theorem OMs.put {w w1 : World} {lo g cap n : Nat} {ms : List Msg} (hn : ms.length = n) (h : OMs w lo w.heap.size (.slice (some ⟨g, 0, none⟩) n cap) ms) (j : Nat) (hj : j < ms.length) (m' : Msg) (u' : Value) (hB : Below w.heap.size w w1) (hu : OB w1 w.heap.size w1.heap.size u' m'.l) :
    OMs ((st9 w1 g (j * 10) m').setCell ⟨g, j * 10 + 9, none⟩ u') lo ((st9 w1 g (j * 10) m').setCell ⟨g, j * 10 + 9, none⟩ u').heap.size (.slice (some ⟨g, 0, none⟩) n cap) (ms.set j m') := by
  subst hn
  obtain ⟨us, hl, h1, h2, h3, h4⟩ := h
  have lt := World.ownsRow.lt h1 g rfl
  have sz : ((st9 w1 g (j * 10) m').setCell ⟨g, j * 10 + 9, none⟩ u').heap.size = w1.heap.size := by simp [st9]
  have hh : ∀ b, b ≠ g → ((st9 w1 g (j * 10) m').setCell ⟨g, j * 10 + 9, none⟩ u').heap[b]? = w1.heap[b]? := fun b hb => (Below.heap_setCell _ _ _ _ hb).trans (st9_heap hb)
  have r1 := st9_row (i := j * 10) (m := m') (row_below10 h1 hB)
  rw [rowL_set9 ms us hl j hj m'] at r1
  have r2 := (World.ownsRow.stored r1 (j * 10 + 9) u').1
  rw [rowL_setu (ms.set j m') us (by rw [List.length_set]; exact hl) j (by rw [List.length_set]; exact hj) u'] at r2
  have hs := hB.size
  refine ⟨us.set j u', by rw [List.length_set, List.length_set]; exact hl, by rw [List.length_set]; exact r2, fun g' e => by cases e; rw [sz]; exact Nat.lt_of_lt_of_le lt.2 hs, fun i hi hi' => ?_, fun i k hi hk a hik ea => ?_⟩
  · have hi2 : i < ms.length := by rw [List.length_set] at hi; exact hi
    rw [set_get hi' (by omega), set_get hi hi2]
    by_cases e : j = i
    · subst e
      rw [if_pos rfl, if_pos rfl, sz]
      refine ⟨ob_keep (hu.mono (by omega) (Nat.le_refl _)) (fun b hb => hh b ?_), fun b hb he => ?_⟩
      · have := (hu.blk hb).1; omega
      · have e2 : g = b := Option.some.inj he
        have := (hu.blk hb).1; omega
    · rw [if_neg e, if_neg e]
      obtain ⟨q1, q2⟩ := h3 i hi2 (by omega)
      refine ⟨ob_keep ((q1.below hB).mono (Nat.le_refl _) (by rw [sz]; exact hs)) (fun b hb => hh b (fun e2 => q2 b hb (by rw [e2]; rfl))), q2⟩
  · have hi2 : i < us.length := by rw [List.length_set] at hi; exact hi
    have hk2 : k < us.length := by rw [List.length_set] at hk; exact hk
    rw [set_get hi hi2] at ea
    rw [set_get hk hk2]
    by_cases e1 : j = i
    · subst e1
      rw [if_pos rfl] at ea
      rw [if_neg (by omega)]
      intro eb
      have b1 := (hu.blk ea).1
      have b2 := ((h3 k (by omega) hk2).1.blk eb).2
      omega
    · rw [if_neg e1] at ea
      by_cases e2 : j = k
      · subst e2
        rw [if_pos rfl]
        intro eb
        have b1 := (hu.blk eb).1
        have b2 := ((h3 i (by omega) hi2).1.blk ea).2
        omega
      · rw [if_neg e2]
        exact h4 i k hi2 hk2 a hik ea
/-- The numbers of a message are turned where they lie. -/
theorem OMs.mark9 {w : World} {lo hi g cap n : Nat} {ms : List Msg} (hn : ms.length = n) (h : OMs w lo hi (.slice (some ⟨g, 0, none⟩) n cap) ms) (j : Nat) (hj : j < ms.length) (m' : Msg) (hm : m'.l = ms[j].l) :
    OMs (st9 w g (j * 10) m') lo hi (.slice (some ⟨g, 0, none⟩) n cap) (ms.set j m') ∧ Ins lo hi w (st9 w g (j * 10) m') := by
  subst hn
  obtain ⟨us, hl, h1, h2, h3, h4⟩ := h
  have lt := World.ownsRow.lt h1 g rfl
  have r1 := st9_row (i := j * 10) (m := m') h1
  rw [rowL_set9 ms us hl j hj m'] at r1
  refine ⟨⟨us, by rw [List.length_set]; exact hl, by rw [List.length_set]; exact r1, h2, fun i hx hi' => ?_, h4⟩, Ins.of_grown (st9_grown w g _ m') (fun k e => by cases e; exact ⟨lt.1, h2 g rfl⟩)⟩
  have hi2 : i < ms.length := by rw [List.length_set] at hx; exact hx
  obtain ⟨q1, q2⟩ := h3 i hi2 hi'
  rw [set_get hx hi2]
  have q3 : OB (st9 w g (j * 10) m') lo hi us[i] ms[i].l := ob_keep q1 (fun b hb => st9_heap (fun e2 => q2 b hb (by rw [e2]; rfl)))
  by_cases e : j = i
  · subst e
    rw [if_pos rfl, hm]
    exact ⟨q3, q2⟩
  · rw [if_neg e]
    exact ⟨q3, q2⟩
theorem rowL_l : ∀ (ms : List Msg) (us : List Value) (j : Nat) (hj : j < ms.length) (l' : List Nat), rowL (ms.set j { ms[j] with l := l' }) us = rowL ms us
  | [], _, j, hj, _ => by simp at hj
  | m :: ms, [], 0, hj, _ => by simp [rowL]
  | m :: ms, [], j + 1, hj, _ => by simp [rowL]
  | m :: ms, u :: us, 0, hj, l' => by
    rw [List.set_cons_zero, rowL, rowL]
    rfl
  | m :: ms, u :: us, j + 1, hj, l' => by
    rw [List.set_cons_succ, rowL, rowL]
    have := rowL_l ms us j (by simpa using hj) l'
    rw [← this]
    rfl
/-- A message's bytes are turned where they lie. -/
theorem OMs.bytes {w : World} {lo hi g cap n : Nat} {ms : List Msg} (hn : ms.length = n) (h : OMs w lo hi (.slice (some ⟨g, 0, none⟩) n cap) ms) (j : Nat) (hj : j < ms.length) :
    ∃ u, w.cell? ⟨g, j * 10 + 9, none⟩ = some u ∧ OB w lo hi u ms[j].l ∧ ∀ (w' : World) (l' : List Nat), w.grownBy w' u.ownBlock → Owx w' lo u l' → OMs w' lo hi (.slice (some ⟨g, 0, none⟩) n cap) (ms.set j { ms[j] with l := l' }) ∧ Ins lo hi w w' := by
  subst hn
  obtain ⟨us, hl, h1, h2, h3, h4⟩ := h
  have hju : j < us.length := by omega
  obtain ⟨q1, q2⟩ := h3 j hj hju
  refine ⟨us[j], by rw [World.ownsRow.cellAt h1 (j * 10 + 9) (by omega), rowL_get ms us hl j hj 9 (by omega)]; rfl, q1, fun w' l' hG hO => ?_⟩
  have er := rowL_l ms us j hj l'
  refine ⟨⟨us, by rw [List.length_set]; exact hl, ?_, h2, fun i hx hi' => ?_, h4⟩, Ins.of_grown hG (fun k e => q1.blk e)⟩
  · rw [List.length_set, er]
    exact World.ownsRow.kept h1 hG (by
      cases e : (us[j]).ownBlock with
      | none => exact .inr (by intro q; cases q)
      | some b => exact .inr (q2 b e))
  · have hi2 : i < ms.length := by rw [List.length_set] at hx; exact hx
    rw [set_get hx hi2]
    by_cases e : j = i
    · subst e
      rw [if_pos rfl]
      exact ⟨⟨hO, q1.2⟩, q2⟩
    · rw [if_neg e]
      obtain ⟨r1, r2⟩ := h3 i hi2 hi'
      refine ⟨⟨r1.1.kept hG ?_, r1.2⟩, r2⟩
      cases e1 : (us[i]).ownBlock with
      | none => exact .inl rfl
      | some b =>
        refine .inr (fun e2 => ?_)
        rcases Nat.lt_or_ge i j with q | q
        · exact h4 i j hi' hju b q e1 e2.symm
        · exact h4 j i hju hi' b (by omega) e2.symm e1
end Go.Proofs.Ytifgcffifffdnam.W
