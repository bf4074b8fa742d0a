/-
  Slices of slices of bytes: what they read, and what marks leave of them.
-/
import Derived.Test.YtcmafbgfdddnnaaWds
namespace Go.Proofs.Ytcmafbgfdddnnaa.M
open Go.RowKit

/-- v reads the slices of bytes ls. -/
def RdS (w : World) (v : Value) (ls : List (List Nat)) : Prop :=
  ∃ (a : Option Addr) (cap : Nat), v = .slice a ls.length cap ∧ ls.length ≤ cap ∧ cap ≤ maxLen ∧ ∀ i (hi : i < ls.length), ∃ b o u, a = some ⟨b, o, none⟩ ∧ w.cell? ⟨b, o + i, none⟩ = some u ∧ Rd w u ls[i]
theorem RdS.parts {w : World} {v : Value} {ls : List (List Nat)} (h : RdS w v ls) :
    ∃ (a : Option Addr) (cap : Nat), v = .slice a ls.length cap ∧ ls.length ≤ cap ∧ cap ≤ maxLen ∧ ∀ i (hi : i < ls.length), ∃ b o u, a = some ⟨b, o, none⟩ ∧ w.cell? ⟨b, o + i, none⟩ = some u ∧ Rd w u ls[i] := h
theorem RdS.below {w w' : World} {v : Value} {ls : List (List Nat)} (h : RdS w v ls) (hb : Below w.heap.size w w') : RdS w' v ls := by
  obtain ⟨a, cap, rfl, hn, hm, hcs⟩ := h
  refine ⟨a, cap, rfl, hn, hm, fun i hi => ?_⟩
  obtain ⟨b, o, u, rfl, hc, hr⟩ := hcs i hi
  exact ⟨b, o, u, rfl, cell_kept hb hc, hr.below hb⟩
theorem Wds.rd {w : World} {base : Nat} {v : Value} {vs : List Value} {ls : List (List Nat)} (h : Wds w base v vs ls) : RdS w v ls := by
  rcases h.row.2 with ⟨rfl, h0⟩ | ⟨g, cap, cur, rfl, hb, hg, hn, hm, hs, ht⟩
  · obtain rfl := List.eq_nil_of_length_eq_zero h0
    exact ⟨none, 0, rfl, Nat.le_refl _, Nat.zero_le _, fun i hi => by simp at hi⟩
  · refine ⟨_, cap, rfl, hn, hm, fun i hi => ?_⟩
    obtain ⟨u, h1, h2⟩ := h.cell rfl i hi
    exact ⟨g, 0, u, rfl, by rw [Nat.zero_add]; exact h2, (h.own i u ls[i] h1 (List.getElem?_eq_getElem hi)).rd⟩
/-- The words' blocks lie in between. -/
theorem Wds.lt {w : World} {base : Nat} {v : Value} {vs : List Value} {ls : List (List Nat)} (h : Wds w base v vs ls) (i : Nat) (u : Value) (hu : vs[i]? = some u) (g : Nat) (e : u.ownBlock = some g) : base ≤ g ∧ g < w.heap.size := by
  have hi : i < ls.length := by rw [← h.len]; exact (List.getElem?_eq_some_iff.1 hu).1
  exact World.ownsRow.lt (h.own i u ls[i] hu (List.getElem?_eq_getElem hi)) g e
/-- Where an elder row alone was written, all is as it was. -/
theorem Wds.low {w w' : World} {base g : Nat} {v : Value} {vs : List Value} {ls : List (List Nat)} (h : Wds w base v vs ls) (hG : w.grownBy w' (some g)) (hg : g < base) : Wds w' base v vs ls := by
  refine ⟨World.ownsRow.kept h.row hG ?_, h.len, fun i u l h1 h2 => (h.own i u l h1 h2).kept hG (.inr fun e => ?_), h.apart⟩
  · cases e : v.ownBlock with
    | none => exact .inl rfl
    | some k =>
      refine .inr fun e2 => ?_
      have := World.ownsRow.lt h.row k e
      cases e2
      omega
  · have := h.lt i u h1 g e
    omega
/-- One of the slices is written. -/
theorem Wds.turned {w w' : World} {base : Nat} {v u : Value} {vs : List Value} {ls : List (List Nat)} (hT : 22 ≠ 5) (h : Wds w base v vs ls) (i : Nat) (m : List Nat) (hu : vs[i]? = some u) (hO : Own w' base u m) (hG : w.grownBy w' u.ownBlock) : Wds w' base v vs (ls.set i m) := by
  have hi : i < ls.length := by rw [← h.len]; exact (List.getElem?_eq_some_iff.1 hu).1
  have h0 := h.own i u ls[i] hu (List.getElem?_eq_getElem hi)
  refine ⟨?_, by rw [List.length_set]; exact h.len, fun j x l h1 h2 => ?_, h.apart⟩
  · rw [List.length_set]
    exact World.ownsRow.kept h.row hG (tag_ne h0 h.row (fun e => hT e.symm))
  · rw [List.getElem?_set] at h2
    by_cases hj : i = j
    · subst hj
      rw [if_pos rfl, if_pos hi] at h2
      rw [hu] at h1
      cases h1
      cases h2
      exact hO
    · rw [if_neg hj] at h2
      refine (h.own j x l h1 h2).kept hG ?_
      rcases Nat.lt_or_gt_of_ne hj with q | q
      · rcases h.apart i j u x q hu h1 with e | e
        · cases ex : x.ownBlock with
          | none => exact .inl rfl
          | some k => exact .inr (by rw [e]; simp)
        · exact .inr (Ne.symm e)
      · exact h.apart j i x u q h1 hu
/-- The first i words bear marks from k on. -/
def mk4 (k : Nat) (ls : List (List Nat)) (i : Nat) : List (List Nat) := (List.range ls.length).map fun j => if j < i then marks (k + 4 * j) 4 else ls.getD j []
theorem mk4_len (k : Nat) (ls : List (List Nat)) (i : Nat) : (mk4 k ls i).length = ls.length := by simp [mk4]
theorem mk4_zero (k : Nat) (ls : List (List Nat)) : mk4 k ls 0 = ls := by
  apply List.ext_getElem?
  intro i
  by_cases hi : i < ls.length
  · simp [mk4, hi]
  · rw [List.getElem?_eq_none (by rw [mk4_len]; omega), List.getElem?_eq_none (by omega)]
theorem mk4_get (k : Nat) (ls : List (List Nat)) (i j : Nat) (hj : j < ls.length) : (mk4 k ls i)[j]? = some (if j < i then marks (k + 4 * j) 4 else ls[j]) := by
  simp [mk4, hj]
theorem mk4_set (k : Nat) (ls : List (List Nat)) (i : Nat) (hi : i < ls.length) : (mk4 k ls i).set i (marks (k + 4 * i) 4) = mk4 k ls (i + 1) := by
  apply List.ext_getElem?
  intro j
  rw [List.getElem?_set]
  by_cases hj : j < ls.length
  · rw [mk4_get k ls (i + 1) j hj, mk4_len]
    by_cases e : i = j
    · subst e
      rw [if_pos rfl, if_pos hi, if_pos (by omega)]
    · rw [if_neg e, mk4_get k ls i j hj]
      by_cases q : j < i
      · rw [if_pos q, if_pos (by omega)]
      · rw [if_neg q, if_neg (by omega)]
  · rw [if_neg (by omega), List.getElem?_eq_none (by rw [mk4_len]; omega), List.getElem?_eq_none (by rw [mk4_len]; omega)]
/-- All of them marked. -/
def mks (k n : Nat) : List (List Nat) := (List.range n).map fun j => marks (k + 4 * j) 4
theorem mks_len (k n : Nat) : (mks k n).length = n := by simp [mks]
theorem mks_at (k n j : Nat) (h : j < (mks k n).length) : (mks k n)[j] = marks (k + 4 * j) 4 := by simp [mks]
theorem mk4_end (k : Nat) (ls : List (List Nat)) : mk4 k ls ls.length = mks k ls.length := by
  apply List.ext_getElem?
  intro j
  by_cases hj : j < ls.length
  · rw [mk4_get k ls _ j hj, if_pos hj]
    simp [mks, hj]
  · rw [List.getElem?_eq_none (by rw [mk4_len]; omega), List.getElem?_eq_none (by rw [mks_len]; omega)]
end Go.Proofs.Ytcmafbgfdddnnaa.M
